/- A fabric drawn; no condition. -/
import Derived.Test.YtikhfeafbckjlaaDoorMixC
import Derived.Test.YtikhfeafbckjlaaDoorCLen
import Derived.Test.YtikhfeafbckjlaaDoorSl
namespace Go.Proofs.YtikhfeafbckjlaaDoor
open Go.RowKit Go.ChangeShapes Go.WideShapes Go.ChangeAt
set_option linter.unusedVariables false
set_option linter.unusedSimpArgs false
set_option maxRecDepth 8000
theorem grown_new {w W W' : World} {row : Option Nat} {b : Nat} (h : w.grownBy W row) (h' : W.grownBy W' (some b)) (hb : w.heap.size ≤ b) : w.grownBy W' row :=
  ⟨h'.os.trans h.os, h'.tape.trans h.tape, h'.output.trans h.output, Nat.le_trans h.size h'.size, fun k hk hne => (h'.block k (Nat.lt_of_lt_of_le hk h.size) (fun e => by cases e; omega)).trans (h.block k hk hne)⟩
/-- a fabric that is drawn: the cursor, the answer's place, the fabric's box, its paths -/
structure Fd (g : Nat) (cv : Value) (zs : List Int) (w : World) (b5 : Nat) (s p m : Int) (V : Value) (ls : Tri) (W : World) : Prop where
  D0 : Dr w g cv zs
  D : Dr W g cv zs
  G : w.grownBy W (some g)
  R : Blk W w.heap.size (F4 0 0 0 (.slice none 0 0)) 26
  B : Blk W b5 (F4 s p m V) 26
  O : Ot 35 (w.heap.size + 1) W V ls
  lt : w.heap.size < b5
section
variable {g : Nat} {cv : Value} {zs : List Int} {w W W' : World} {b5 : Nat} {s p m : Int} {V : Value} {ls : Tri}
theorem Fd.ob (h : Fd g cv zs w b5 s p m V ls W) : ∀ k, V.ownBlock = some k → w.heap.size + 1 ≤ k ∧ k ≠ b5 := by
  intro k e
  refine ⟨(World.ownsRow.lt h.O k e).1, fun ek => ?_⟩
  subst ek
  rcases h.O.2 with ⟨rfl, hn⟩ | ⟨g', cap, cur, rfl, hb, hg', -⟩
  · simp [Value.ownBlock] at e
  · simp [Value.ownBlock] at e
    subst e
    have h1 := h.B
    rw [Blk, hg'] at h1
    cases h1
theorem Fd.draw (h : Fd g cv zs w b5 s p m V ls W) (hd : Dr W' g cv zs) (hg : W.grownBy W' (some g)) : Fd g cv zs w b5 s p m V ls W' := by
  have hgw := h.D0.lt
  have hlt := h.lt
  refine ⟨h.D0, hd, grown_trans h.G hg, (hg.block _ h.R.lt (fun e => by cases e; omega)).trans h.R, (hg.block _ h.B.lt (fun e => by cases e; omega)).trans h.B, World.ownsRow.kept h.O hg (.inr (fun e => by have := (h.ob _ e).1; omega)), h.lt⟩
theorem Fd.below (h : Fd g cv zs w b5 s p m V ls W) (hb : Below W.heap.size W W') : Fd g cv zs w b5 s p m V ls W' :=
  ⟨h.D0, h.D.below hb, grown_then_below h.G (hb.mono h.G.size), h.R.below hb h.R.lt, h.B.below hb h.B.lt, h.O.below hb, h.lt⟩
theorem Fd.toD (h : Fd g cv zs w b5 s p m V ls W) {b : Nat} (hg : W.grownBy W' (some b)) (hb : w.heap.size ≤ b) : Dr W' g cv zs ∧ w.grownBy W' (some g) := by
  have hgw := h.D0.lt
  have g2 := grown_new h.G hg hb
  obtain ⟨i, hh, k, e1, e2⟩ := h.D.cur
  exact ⟨h.D0.of g2 ⟨i, hh, (hg.block _ k.lt (fun e => by cases e; omega)).trans k, e1, e2⟩, g2⟩
/-- another fabric is stored -/
theorem Fd.put (h : Fd g cv zs w b5 s p m V ls W) {s' p' m' : Int} {V' : Value} {ls' : Tri} (hO : Ot 35 (w.heap.size + 1) W V' ls') : Fd g cv zs w b5 s' p' m' V' ls' ((((W.setCell ⟨b5, 0, none⟩ (.int .i64 s')).setCell ⟨b5, 1, none⟩ (.int .i64 p')).setCell ⟨b5, 2, none⟩ (.int .i64 m')).setCell ⟨b5, 3, none⟩ V') := by
  have hlt := h.lt
  have hg := grown_put4 W b5 (.int .i64 s') (.int .i64 p') (.int .i64 m') V'
  obtain ⟨d, g2⟩ := h.toD hg (by omega)
  refine ⟨h.D0, d, g2, (hg.block _ h.R.lt (fun e => by cases e; omega)).trans h.R, putF h.B s' p' m' V', World.ownsRow.kept hO hg (.inr (fun e => ?_)), h.lt⟩
  rcases hO.2 with ⟨rfl, hn⟩ | ⟨g', cap, cur, rfl, hb, hg', -⟩
  · simp [Value.ownBlock] at e
  · simp [Value.ownBlock] at e
    subst e
    have h1 := h.B
    rw [Blk, hg'] at h1
    cases h1
theorem Fd.setMid (h : Fd g cv zs w b5 s p m V ls W) (m' : Int) : Fd g cv zs w b5 s p m' V ls (W.setCell ⟨b5, 2, none⟩ (.int .i64 m')) := by
  have hlt := h.lt
  have hg := grown_set W b5 2 (.int .i64 m')
  obtain ⟨d, g2⟩ := h.toD hg (by omega)
  refine ⟨h.D0, d, g2, h.R.other _ _ (by dsimp only; omega), ?_, World.ownsRow.kept h.O hg (.inr (fun e => (h.ob _ e).2 rfl)), h.lt⟩
  have := h.B.set 2 (.int .i64 m')
  simpa using this
theorem Fd.setSides (h : Fd g cv zs w b5 s p m V ls W) (s' : Int) : Fd g cv zs w b5 s' p m V ls (W.setCell ⟨b5, 0, none⟩ (.int .i64 s')) := by
  have hlt := h.lt
  have hg := grown_set W b5 0 (.int .i64 s')
  obtain ⟨d, g2⟩ := h.toD hg (by omega)
  refine ⟨h.D0, d, g2, h.R.other _ _ (by dsimp only; omega), ?_, World.ownsRow.kept h.O hg (.inr (fun e => (h.ob _ e).2 rfl)), h.lt⟩
  have := h.B.set 0 (.int .i64 s')
  simpa using this
end
/-- what draws a fabric -/
def DrF (g : Nat) (cv : Value) (zs : List Int) (w : World) (L : Nat) (e : Ending) (w' : World) : Prop :=
  ∃ (s p m : Int) (V : Value) (ls : Tri), e = .returned (.agg (F4 s p m V)) ∧ (1 ≤ s ∧ s ≤ 4) ∧ (1 ≤ p ∧ p ≤ 4) ∧ (1 ≤ m ∧ m ≤ 7) ∧ ls.length ≤ L ∧ Ot 35 w.heap.size w' V ls ∧ Dr w' g cv zs ∧ w.grownBy w' (some g)
/-- a fabric is answered out of its box -/
theorem Fd.fin {g : Nat} {cv : Value} {zs : List Int} {w W : World} {b5 : Nat} {s p m : Int} {V : Value} {ls : Tri} (h : Fd g cv zs w b5 s p m V ls W) : ∀ W4, (((W.setCell ⟨w.heap.size, 0, none⟩ (.int .i64 s)).setCell ⟨w.heap.size, 1, none⟩ (.int .i64 p)).setCell ⟨w.heap.size, 2, none⟩ (.int .i64 m)).setCell ⟨w.heap.size, 3, none⟩ V = W4 →
    Blk W4 w.heap.size (F4 s p m V) 26 ∧ Ot 35 w.heap.size W4 V ls ∧ Dr W4 g cv zs ∧ w.grownBy W4 (some g) := by
  rintro _ rfl
  have hg := grown_put4 W w.heap.size (.int .i64 s) (.int .i64 p) (.int .i64 m) V
  obtain ⟨d, g2⟩ := h.toD hg (Nat.le_refl _)
  exact ⟨putF h.R s p m V, Ot.mono (World.ownsRow.kept h.O hg (.inr (fun e => by have := (h.ob _ e).1; omega))) (by omega), d, g2⟩
set_option maxHeartbeats 12800000 in
theorem l3Draw_c (g : Nat) (cv : Value) (zs : List Int) (w : World) (h : Dr w g cv zs) :
   Calls Tryd.prog 57 #[.pointer (some ⟨g, 0, none⟩), cv] w (DrF g cv zs w 27) := by
  obtain ⟨ac, cc, rfl, -⟩ := id h.rd
  have h0 : Dr w g (.slice ac zs.length cc) zs := h
  obtain ⟨cv, hcv⟩ : ∃ cv, Value.slice ac zs.length cc = cv := ⟨_, rfl⟩
  obtain ⟨W1, hW1⟩ : ∃ W1, w.alloc (Obj.cells (F4 0 0 0 (.slice none 0 0)) 26) = W1 := ⟨_, rfl⟩
  have b1 : Below w.heap.size w W1 := hW1 ▸ (Below.refl _ _).alloc (Nat.le_refl _) _
  rw [hcv] at h0 h ⊢
  have HD0 : Hid (Dr w g cv zs) := h0
  have HD1 : Hid (Dr W1 g cv zs) := h0.below b1
  have HG1 : Hid (w.grownBy W1 (some g)) := hW1 ▸ World.grownBy_alloc w _ _
  have HR1 : Hid (Blk W1 w.heap.size (F4 0 0 0 (.slice none 0 0)) 26) := hW1 ▸ Blk.new _ _ _
  have HW1 : Hid (w.alloc (Obj.cells (F4 0 0 0 (.slice none 0 0)) 26) = W1) := hW1
  have hgl := h0.lt
  clear b1 hW1 h h0 hcv
  go_enter Tryd.func57, Tryd.ntmps57
  go_wp2_with (fail)
  rw [HW1.out]
  refine (below_c g cv zs 4 W1 HD1.out (by decide)).mono ?_
  rintro e w2 ⟨x1, rfl, x1a, x1b, -, d2, g2⟩
  have x1c := x1b (by decide)
  have HD2 : Hid (Dr w2 g cv zs) := d2
  have HG2 : Hid (W1.grownBy w2 (some g)) := g2
  clear d2 g2 x1b
  go_wp2_with (fail)
  refine (below_c g cv zs 4 w2 HD2.out (by decide)).mono ?_
  rintro e w3 ⟨x2, rfl, x2a, x2b, -, d3, g3⟩
  have x2c := x2b (by decide)
  have HD3 : Hid (Dr w3 g cv zs) := d3
  have HG3 : Hid (W1.grownBy w3 (some g)) := grown_trans HG2.out g3
  clear d3 g3 HG2 HD2 x2b
  go_wp2_with (fail)
  refine (below_c g cv zs 7 w3 HD3.out (by decide)).mono ?_
  rintro e w4 ⟨x3, rfl, x3a, x3b, -, d4, g4⟩
  have x3c := x3b (by decide)
  obtain ⟨s, hs⟩ : ∃ s, 1 + x1 = s := ⟨_, rfl⟩
  obtain ⟨p, hp⟩ : ∃ p, 1 + x2 = p := ⟨_, rfl⟩
  obtain ⟨m0, hm0⟩ : ∃ m, 1 + x3 = m := ⟨_, rfl⟩
  have hs1 : 1 ≤ s := by omega
  have hs2 : s ≤ 4 := by omega
  have hp1 : 1 ≤ p := by omega
  have hp2 : p ≤ 4 := by omega
  have hm1 : 1 ≤ m0 := by omega
  have hm2 : m0 ≤ 7 := by omega
  have hN1 : 1 ≤ s * p := by
    have : 1 * 1 ≤ s * p := Int.mul_le_mul hs1 hp1 (by decide) (by omega)
    omega
  have hN2 : s * p ≤ 16 := by
    have : s * p ≤ 4 * 4 := Int.mul_le_mul hs2 hp2 (by omega) (by decide)
    omega
  have HG4 : Hid (W1.grownBy w4 (some g)) := grown_trans HG3.out g4
  have HD4 : Hid (Dr w4 g cv zs) := d4
  obtain ⟨W5, hW5⟩ : ∃ W5, w4.alloc (Obj.cells (F4 s p m0 (.slice none 0 0)) 26) = W5 := ⟨_, rfl⟩
  obtain ⟨b5, hb5⟩ : ∃ b5, w4.heap.size = b5 := ⟨_, rfl⟩
  have b45 : Below w4.heap.size w4 W5 := hW5 ▸ (Below.refl _ _).alloc (Nat.le_refl _) _
  have hlt4 : w.heap.size < w4.heap.size := Nat.lt_of_lt_of_le HR1.out.lt HG4.out.size
  have F5 : Hid (Fd g cv zs w b5 s p m0 (.slice none 0 0) [] W5) := by
    refine ⟨HD0.out, HD4.out.below b45, grown_trans (grown_trans HG1.out HG4.out) (hW5 ▸ World.grownBy_alloc w4 _ _), ?_, ?_, World.ownsRow_nil _ _ _ _, by omega⟩
    · exact Blk.below ((HG4.out.block _ HR1.out.lt (fun e => by cases e; omega)).trans HR1.out) b45 hlt4
    · rw [← hb5]; exact hW5 ▸ Blk.new _ _ _
  have HW5 : Hid (w4.alloc (Obj.cells (F4 s p m0 (.slice none 0 0)) 26) = W5) := hW5
  have HS : Hid (1 + x1 = s ∧ 1 + x2 = p ∧ 1 + x3 = m0) := ⟨hs, hp, hm0⟩
  clear d4 g4 HG3 HD3 x3b hW5 b45 HG4 HG1 HR1 HD0 HD1 HW1
  clear hs hp hm0
  go_wp2_with (fail)
  rw [HS.out.1, HS.out.2.1, HS.out.2.2, HW5.out]
  clear HW5 HD4 hlt4 hb5
  refine (once_c g cv zs 2 W5 F5.out.D (by decide)).mono ?_
  rintro e w6 ⟨r, rfl, d6, g6⟩
  have F6 : Hid (Fd g cv zs w b5 s p m0 (.slice none 0 0) [] w6) := F5.out.draw d6 g6
  clear d6 g6 F5 HS x1a x1c x2a x2c x3a x3c
  cases r with
  | true =>
    have c0 := F6.out.B.cell 0
    have c1 := F6.out.B.cell 1
    have c2 := F6.out.B.cell 2
    have c3 := F6.out.B.cell 3
    have f0 := F6.out.B.frozen 0
    have f1 := F6.out.B.frozen 1
    have f2 := F6.out.B.frozen 2
    have f3 := F6.out.B.frozen 3
    simp at c0 c1 c2 c3
    have F6' : Hid (Fd g cv zs w b5 s p p (.slice none 0 0) [] (w6.setCell ⟨b5, 2, none⟩ (.int .i64 p))) := F6.out.setMid p
    obtain ⟨w6', hw6'⟩ : ∃ x, w6.setCell ⟨b5, 2, none⟩ (.int .i64 p) = x := ⟨_, rfl⟩
    have HW6 : Hid (w6.setCell ⟨b5, 2, none⟩ (.int .i64 p) = w6') := hw6'
    rw [hw6'] at F6'
    clear hw6'
    go_wp2_with (fail)
    rw [HW6.out]
    clear HW6 F6 c0 c1 c2 c3 f0 f1 f2 f3
    have F6 := F6'
    clear F6'
    have c0 := F6.out.B.cell 0
    have c1 := F6.out.B.cell 1
    have c2 := F6.out.B.cell 2
    have c3 := F6.out.B.cell 3
    have f0 := F6.out.B.frozen 0
    have f1 := F6.out.B.frozen 1
    have f2 := F6.out.B.frozen 2
    have f3 := F6.out.B.frozen 3
    simp at c0 c1 c2 c3
    refine (size_c _ zs 14 w6' F6.out.D.rd (by decide) (by decide)).mono ?_
    rintro e w7' ⟨z, rfl, za, zb, hw7⟩
    obtain rfl : w6' = w7' := hw7.symm
    go_wp2_with (fail)
    refine (below_c g cv zs (2 * z) w6' F6.out.D (by omega)).mono ?_
    rintro e w7 ⟨q, rfl, qa, qb, -, d', g'⟩
    have F7 : Hid (Fd g cv zs w b5 s p p (.slice none 0 0) [] w7) := F6.out.draw d' g'
    clear d' g' F6 c0 c1 c2 c3 f0 f1 f2 f3
    obtain ⟨Q, rfl⟩ : ∃ Q : Nat, q = Q := ⟨q.toNat, by omega⟩
    have hQ : Q ≤ 27 := by omega
    obtain ⟨m, F7, hmm⟩ : ∃ m, Hid (Fd g cv zs w b5 s p m (.slice none 0 0) [] w7) ∧ (1 ≤ m ∧ m ≤ 7) := ⟨_, F7, by omega⟩
    go_wp2
    go_loopw [7] (fun i wr => ∃ k : Nat, i = .int .i64 k ∧ k ≤ 27 ∧ ∃ V ls, ls.length + k ≤ 27 ∧ Hid (Fd g cv zs w b5 s p m V ls wr)) (fun i _ => (intOf i).toNat)
    case atStart => exact ⟨Q, rfl, hQ, _, [], by simpa using hQ, F7.out⟩
    case round =>
      obtain ⟨k, rfl, hk, V, ls, hkl, FK⟩ := hrel
      clear F7
      obtain ⟨av, cpv, hV, -⟩ := own_form FK.out.O
      obtain ⟨ln, hln⟩ : ∃ ln, ls.length = ln := ⟨_, rfl⟩
      rw [hln] at hV
      subst hV
      have c0 := FK.out.B.cell 0
      have c1 := FK.out.B.cell 1
      have c2 := FK.out.B.cell 2
      have c3 := FK.out.B.cell 3
      have f0 := FK.out.B.frozen 0
      have f1 := FK.out.B.frozen 1
      have f2 := FK.out.B.frozen 2
      have f3 := FK.out.B.frozen 3
      simp at c0 c1 c2 c3
      cases k with
      | zero =>
        have d0 := FK.out.R.cell 0
        have d1 := FK.out.R.cell 1
        have d2 := FK.out.R.cell 2
        have d3 := FK.out.R.cell 3
        have e0 := FK.out.R.frozen 0
        have e1 := FK.out.R.frozen 1
        have e2 := FK.out.R.frozen 2
        have e3 := FK.out.R.frozen 3
        simp at d0 d1 d2 d3
        have hbl := FK.out.lt
        have hnb : ¬ (w.heap.size = b5) := by omega
        have hnb' : ¬ (b5 = w.heap.size) := by omega
        have HFN := FK.out.fin
        have HF : Hid (∀ W4, (((wr.setCell ⟨w.heap.size, 0, none⟩ (.int .i64 s)).setCell ⟨w.heap.size, 1, none⟩ (.int .i64 p)).setCell ⟨w.heap.size, 2, none⟩ (.int .i64 m)).setCell ⟨w.heap.size, 3, none⟩ (.slice av ln cpv) = W4 → Blk W4 w.heap.size (F4 s p m (.slice av ln cpv)) 26 ∧ Ot 35 w.heap.size W4 (.slice av ln cpv) ls ∧ Dr W4 g cv zs ∧ w.grownBy W4 (some g)) := HFN
        clear HFN
        have hlb : ls.length ≤ 27 := by omega
        go_wp2
        exact bodyPost_ret (v := .agg (F4 s p m (.slice av ln cpv))) (results_cell_row rfl _ _ _ 26 _ (0, 0) _ rfl (HF.out _ rfl).1 Tryd.underlying26 rfl size29) rfl ⟨s, p, m, _, ls, rfl, ⟨hs1, hs2⟩, ⟨hp1, hp2⟩, hmm, hlb, (HF.out _ rfl).2⟩
      | succ k =>
        have hkp : (0 : Int) < ((k + 1 : Nat) : Int) := by omega
        go_wp2_with (fail)
        refine (once_c g cv zs 5 wr FK.out.D (by decide)).mono ?_
        rintro e w8 ⟨r, rfl, d', g'⟩
        have F8 : Hid (Fd g cv zs w b5 s p m (.slice av ln cpv) ls w8) := FK.out.draw d' g'
        clear d' g' FK
        clear c0 c1 c2 c3 f0 f1 f2 f3
        cases r with
        | true =>
          go_wp2
          refine region_any0 (by kernel_rfl) ?_
          have FA : Hid (Fd g cv zs w b5 s p m (.slice av ln cpv) ls w8.drew) := F8.out.below (Below.refl _ _).drew
          obtain ⟨w9, hw9⟩ : ∃ x, w8.drew = x := ⟨_, rfl⟩
          rw [hw9] at FA ⊢
          clear hw9 F8
          refine any_pure [false, true, true, false, false, false, false, false, false] 7 rfl (by kernel_rfl) (fun _ _ _ _ _ h => h) ?_
          simp only [selT]
          repeat (go_big_quiet_step (fail))
          refine wpQuiet_nil ?_
          have c0 := FA.out.B.cell 0
          have c1 := FA.out.B.cell 1
          have c2 := FA.out.B.cell 2
          have c3 := FA.out.B.cell 3
          have f0 := FA.out.B.frozen 0
          have f1 := FA.out.B.frozen 1
          have f2 := FA.out.B.frozen 2
          have f3 := FA.out.B.frozen 3
          simp at c0 c1 c2 c3
          refine any_two 0 3 (by kernel_rfl) rfl rfl ?_ ?_
          · go_wp2
            refine any_one 3 (by kernel_rfl) rfl ?_
            go_wp2_with (fail)
            refine (below_c g cv zs (s * p) w9 FA.out.D (by omega)).mono ?_
            rintro e w10 ⟨x, rfl, xa, xb, -, d', g'⟩
            have FB : Hid (Fd g cv zs w b5 s p m (.slice av ln cpv) ls w10) := FA.out.draw d' g'
            clear d' g' FA
            go_wp2
            refine any_one 4 (by kernel_rfl) rfl ?_
            go_wp2_with (fail)
            refine (relM_c s p m x _ ls w10 FB.out.O.rd (by omega)).mono ?_
            rintro e wq ⟨vq, lq, cq, rfl, hsq, oq, bq⟩
            have hlen := hsq.len
            have FQ : Hid (Fd g cv zs w b5 s p m (.slice av ln cpv) ls wq) := FB.out.below bq
            have oq' : Ot 35 (w.heap.size + 1) wq vq lq := oq.mono (by have := FB.out.R.lt; omega)
            obtain ⟨aq, cpq, hvq, -⟩ := own_form oq
            subst hvq
            have FN : Hid (Fd g cv zs w b5 s p m (.slice aq lq.length cpq) lq ((((wq.setCell ⟨b5, 0, none⟩ (.int .i64 s)).setCell ⟨b5, 1, none⟩ (.int .i64 p)).setCell ⟨b5, 2, none⟩ (.int .i64 m)).setCell ⟨b5, 3, none⟩ (.slice aq lq.length cpq))) := FQ.out.put oq'
            clear hsq oq oq' bq FB
            clear c0 c1 c2 c3 f0 f1 f2 f3
            have c0 := FQ.out.B.cell 0
            have c1 := FQ.out.B.cell 1
            have c2 := FQ.out.B.cell 2
            have c3 := FQ.out.B.cell 3
            have f0 := FQ.out.B.frozen 0
            have f1 := FQ.out.B.frozen 1
            have f2 := FQ.out.B.frozen 2
            have f3 := FQ.out.B.frozen 3
            simp at c0 c1 c2 c3
            go_wp2
            have neT : Nonempty (At (fun _ => True)) := ⟨⟨wq, trivial⟩⟩
            refine any_pure [false, false, false, false, false, true, true, true, false] 1 rfl (by kernel_rfl) (fun _ _ _ _ _ h => h) ?_
            simp only [selT]
            repeat (go_big_quiet_step (fail))
            refine wpQuiet_nil ?_
            refine any_one 8 (by kernel_rfl) rfl ?_
            go_wp2
            refine any_end (by kernel_rfl) ?_
            clear FQ c0 c1 c2 c3 f0 f1 f2 f3 neT
            go_wp2
            go_roundw
            case rel => exact ⟨k, by go_num, by omega, _, lq, by omega, FN.out⟩
            case measure => simp [intOf]
          · go_wp2_with (fail)
            refine (below_c g cv zs (s * p) w9 FA.out.D (by omega)).mono ?_
            rintro e w10 ⟨x, rfl, xa, xb, -, d', g'⟩
            have FB : Hid (Fd g cv zs w b5 s p m (.slice av ln cpv) ls w10) := FA.out.draw d' g'
            clear d' g' FA
            go_wp2
            clear c0 c1 c2 c3 f0 f1 f2 f3
            have c0 := FB.out.B.cell 0
            have c1 := FB.out.B.cell 1
            have c2 := FB.out.B.cell 2
            have c3 := FB.out.B.cell 3
            have f0 := FB.out.B.frozen 0
            have f1 := FB.out.B.frozen 1
            have f2 := FB.out.B.frozen 2
            have f3 := FB.out.B.frozen 3
            simp at c0 c1 c2 c3
            refine any_one 0 (by kernel_rfl) rfl ?_
            go_wp2
            refine any_one 4 (by kernel_rfl) rfl ?_
            go_wp2_with (fail)
            refine (relM_c s p m x _ ls w10 FB.out.O.rd (by omega)).mono ?_
            rintro e wq ⟨vq, lq, cq, rfl, hsq, oq, bq⟩
            have hlen := hsq.len
            have FQ : Hid (Fd g cv zs w b5 s p m (.slice av ln cpv) ls wq) := FB.out.below bq
            have oq' : Ot 35 (w.heap.size + 1) wq vq lq := oq.mono (by have := FB.out.R.lt; omega)
            obtain ⟨aq, cpq, hvq, -⟩ := own_form oq
            subst hvq
            have FN : Hid (Fd g cv zs w b5 s p m (.slice aq lq.length cpq) lq ((((wq.setCell ⟨b5, 0, none⟩ (.int .i64 s)).setCell ⟨b5, 1, none⟩ (.int .i64 p)).setCell ⟨b5, 2, none⟩ (.int .i64 m)).setCell ⟨b5, 3, none⟩ (.slice aq lq.length cpq))) := FQ.out.put oq'
            clear hsq oq oq' bq FB
            clear c0 c1 c2 c3 f0 f1 f2 f3
            have c0 := FQ.out.B.cell 0
            have c1 := FQ.out.B.cell 1
            have c2 := FQ.out.B.cell 2
            have c3 := FQ.out.B.cell 3
            have f0 := FQ.out.B.frozen 0
            have f1 := FQ.out.B.frozen 1
            have f2 := FQ.out.B.frozen 2
            have f3 := FQ.out.B.frozen 3
            simp at c0 c1 c2 c3
            go_wp2
            have neT : Nonempty (At (fun _ => True)) := ⟨⟨wq, trivial⟩⟩
            refine any_pure [false, false, false, false, false, true, true, true, false] 1 rfl (by kernel_rfl) (fun _ _ _ _ _ h => h) ?_
            simp only [selT]
            repeat (go_big_quiet_step (fail))
            refine wpQuiet_nil ?_
            refine any_one 8 (by kernel_rfl) rfl ?_
            go_wp2
            refine any_end (by kernel_rfl) ?_
            clear FQ c0 c1 c2 c3 f0 f1 f2 f3 neT
            go_wp2
            go_roundw
            case rel => exact ⟨k, by go_num, by omega, _, lq, by omega, FN.out⟩
            case measure => simp [intOf]
        | false =>
          go_wp2
          refine region_any0 (by kernel_rfl) ?_
          have FA : Hid (Fd g cv zs w b5 s p m (.slice av ln cpv) ls w8.drew) := F8.out.below (Below.refl _ _).drew
          obtain ⟨w9, hw9⟩ : ∃ x, w8.drew = x := ⟨_, rfl⟩
          rw [hw9] at FA ⊢
          clear hw9 F8
          refine any_pure [false, true, true, false, true, true, false, false, false, false, false, false, false] 9 rfl (by kernel_rfl) (fun _ _ _ _ _ h => h) ?_
          simp only [selT]
          repeat (go_big_quiet_step (fail))
          refine wpQuiet_nil ?_
          have c0 := FA.out.B.cell 0
          have c1 := FA.out.B.cell 1
          have c2 := FA.out.B.cell 2
          have c3 := FA.out.B.cell 3
          have f0 := FA.out.B.frozen 0
          have f1 := FA.out.B.frozen 1
          have f2 := FA.out.B.frozen 2
          have f3 := FA.out.B.frozen 3
          simp at c0 c1 c2 c3
          refine any_two 0 3 (by kernel_rfl) rfl rfl ?_ ?_
          · go_wp2
            refine any_one 3 (by kernel_rfl) rfl ?_
            go_wp2_with (fail)
            refine (below_c g cv zs (s * p) w9 FA.out.D (by omega)).mono ?_
            rintro e w10 ⟨x, rfl, xa, xb, -, d', g'⟩
            have FB : Hid (Fd g cv zs w b5 s p m (.slice av ln cpv) ls w10) := FA.out.draw d' g'
            clear d' g' FA
            go_wp2
            refine any_one 6 (by kernel_rfl) rfl ?_
            go_wp2_with (fail)
            refine (below_c g cv zs (s * p) w10 FB.out.D (by omega)).mono ?_
            rintro e w11 ⟨y, rfl, ya, yb, -, d', g'⟩
            have FC : Hid (Fd g cv zs w b5 s p m (.slice av ln cpv) ls w11) := FB.out.draw d' g'
            clear d' g' FB
            go_wp2
            refine any_one 7 (by kernel_rfl) rfl ?_
            go_wp2_with (fail)
            refine (conM_c s p m x y _ ls w11 FC.out.O.rd (by omega)).mono ?_
            rintro e wq ⟨vq, lq, mvq, mq, cq, rfl, hsq, oq, -, -, bq⟩
            have hlen := hsq.len.1
            have FQ : Hid (Fd g cv zs w b5 s p m (.slice av ln cpv) ls wq) := FC.out.below bq
            have oq' : Ot 35 (w.heap.size + 1) wq vq lq := oq.mono (by have := FC.out.R.lt; omega)
            obtain ⟨aq, cpq, hvq, -⟩ := own_form oq
            subst hvq
            have FN : Hid (Fd g cv zs w b5 s p m (.slice aq lq.length cpq) lq ((((wq.setCell ⟨b5, 0, none⟩ (.int .i64 s)).setCell ⟨b5, 1, none⟩ (.int .i64 p)).setCell ⟨b5, 2, none⟩ (.int .i64 m)).setCell ⟨b5, 3, none⟩ (.slice aq lq.length cpq))) := FQ.out.put oq'
            clear hsq oq oq' bq FC
            clear c0 c1 c2 c3 f0 f1 f2 f3
            have c0 := FQ.out.B.cell 0
            have c1 := FQ.out.B.cell 1
            have c2 := FQ.out.B.cell 2
            have c3 := FQ.out.B.cell 3
            have f0 := FQ.out.B.frozen 0
            have f1 := FQ.out.B.frozen 1
            have f2 := FQ.out.B.frozen 2
            have f3 := FQ.out.B.frozen 3
            simp at c0 c1 c2 c3
            go_wp2
            have neT : Nonempty (At (fun _ => True)) := ⟨⟨wq, trivial⟩⟩
            refine any_pure [false, false, false, false, false, false, false, false, true, true, true, true, false] 1 rfl (by kernel_rfl) (fun _ _ _ _ _ h => h) ?_
            simp only [selT]
            repeat (go_big_quiet_step (fail))
            refine wpQuiet_nil ?_
            refine any_one 12 (by kernel_rfl) rfl ?_
            go_wp2
            refine any_end (by kernel_rfl) ?_
            clear FQ c0 c1 c2 c3 f0 f1 f2 f3 neT
            go_wp2
            go_roundw
            case rel => exact ⟨k, by go_num, by omega, _, lq, by omega, FN.out⟩
            case measure => simp [intOf]
          · go_wp2_with (fail)
            refine (below_c g cv zs (s * p) w9 FA.out.D (by omega)).mono ?_
            rintro e w10 ⟨x, rfl, xa, xb, -, d', g'⟩
            have FB : Hid (Fd g cv zs w b5 s p m (.slice av ln cpv) ls w10) := FA.out.draw d' g'
            clear d' g' FA
            go_wp2
            clear c0 c1 c2 c3 f0 f1 f2 f3
            have c0 := FB.out.B.cell 0
            have c1 := FB.out.B.cell 1
            have c2 := FB.out.B.cell 2
            have c3 := FB.out.B.cell 3
            have f0 := FB.out.B.frozen 0
            have f1 := FB.out.B.frozen 1
            have f2 := FB.out.B.frozen 2
            have f3 := FB.out.B.frozen 3
            simp at c0 c1 c2 c3
            refine any_two 0 6 (by kernel_rfl) rfl rfl ?_ ?_
            · go_wp2
              refine any_one 6 (by kernel_rfl) rfl ?_
              go_wp2_with (fail)
              refine (below_c g cv zs (s * p) w10 FB.out.D (by omega)).mono ?_
              rintro e w11 ⟨y, rfl, ya, yb, -, d', g'⟩
              have FC : Hid (Fd g cv zs w b5 s p m (.slice av ln cpv) ls w11) := FB.out.draw d' g'
              clear d' g' FB
              go_wp2
              refine any_one 7 (by kernel_rfl) rfl ?_
              go_wp2_with (fail)
              refine (conM_c s p m x y _ ls w11 FC.out.O.rd (by omega)).mono ?_
              rintro e wq ⟨vq, lq, mvq, mq, cq, rfl, hsq, oq, -, -, bq⟩
              have hlen := hsq.len.1
              have FQ : Hid (Fd g cv zs w b5 s p m (.slice av ln cpv) ls wq) := FC.out.below bq
              have oq' : Ot 35 (w.heap.size + 1) wq vq lq := oq.mono (by have := FC.out.R.lt; omega)
              obtain ⟨aq, cpq, hvq, -⟩ := own_form oq
              subst hvq
              have FN : Hid (Fd g cv zs w b5 s p m (.slice aq lq.length cpq) lq ((((wq.setCell ⟨b5, 0, none⟩ (.int .i64 s)).setCell ⟨b5, 1, none⟩ (.int .i64 p)).setCell ⟨b5, 2, none⟩ (.int .i64 m)).setCell ⟨b5, 3, none⟩ (.slice aq lq.length cpq))) := FQ.out.put oq'
              clear hsq oq oq' bq FC
              clear c0 c1 c2 c3 f0 f1 f2 f3
              have c0 := FQ.out.B.cell 0
              have c1 := FQ.out.B.cell 1
              have c2 := FQ.out.B.cell 2
              have c3 := FQ.out.B.cell 3
              have f0 := FQ.out.B.frozen 0
              have f1 := FQ.out.B.frozen 1
              have f2 := FQ.out.B.frozen 2
              have f3 := FQ.out.B.frozen 3
              simp at c0 c1 c2 c3
              go_wp2
              have neT : Nonempty (At (fun _ => True)) := ⟨⟨wq, trivial⟩⟩
              refine any_pure [false, false, false, false, false, false, false, false, true, true, true, true, false] 1 rfl (by kernel_rfl) (fun _ _ _ _ _ h => h) ?_
              simp only [selT]
              repeat (go_big_quiet_step (fail))
              refine wpQuiet_nil ?_
              refine any_one 12 (by kernel_rfl) rfl ?_
              go_wp2
              refine any_end (by kernel_rfl) ?_
              clear FQ c0 c1 c2 c3 f0 f1 f2 f3 neT
              go_wp2
              go_roundw
              case rel => exact ⟨k, by go_num, by omega, _, lq, by omega, FN.out⟩
              case measure => simp [intOf]
            · go_wp2_with (fail)
              refine (below_c g cv zs (s * p) w10 FB.out.D (by omega)).mono ?_
              rintro e w11 ⟨y, rfl, ya, yb, -, d', g'⟩
              have FC : Hid (Fd g cv zs w b5 s p m (.slice av ln cpv) ls w11) := FB.out.draw d' g'
              clear d' g' FB
              go_wp2
              clear c0 c1 c2 c3 f0 f1 f2 f3
              have c0 := FC.out.B.cell 0
              have c1 := FC.out.B.cell 1
              have c2 := FC.out.B.cell 2
              have c3 := FC.out.B.cell 3
              have f0 := FC.out.B.frozen 0
              have f1 := FC.out.B.frozen 1
              have f2 := FC.out.B.frozen 2
              have f3 := FC.out.B.frozen 3
              simp at c0 c1 c2 c3
              refine any_one 0 (by kernel_rfl) rfl ?_
              go_wp2
              refine any_one 7 (by kernel_rfl) rfl ?_
              go_wp2_with (fail)
              refine (conM_c s p m x y _ ls w11 FC.out.O.rd (by omega)).mono ?_
              rintro e wq ⟨vq, lq, mvq, mq, cq, rfl, hsq, oq, -, -, bq⟩
              have hlen := hsq.len.1
              have FQ : Hid (Fd g cv zs w b5 s p m (.slice av ln cpv) ls wq) := FC.out.below bq
              have oq' : Ot 35 (w.heap.size + 1) wq vq lq := oq.mono (by have := FC.out.R.lt; omega)
              obtain ⟨aq, cpq, hvq, -⟩ := own_form oq
              subst hvq
              have FN : Hid (Fd g cv zs w b5 s p m (.slice aq lq.length cpq) lq ((((wq.setCell ⟨b5, 0, none⟩ (.int .i64 s)).setCell ⟨b5, 1, none⟩ (.int .i64 p)).setCell ⟨b5, 2, none⟩ (.int .i64 m)).setCell ⟨b5, 3, none⟩ (.slice aq lq.length cpq))) := FQ.out.put oq'
              clear hsq oq oq' bq FC
              clear c0 c1 c2 c3 f0 f1 f2 f3
              have c0 := FQ.out.B.cell 0
              have c1 := FQ.out.B.cell 1
              have c2 := FQ.out.B.cell 2
              have c3 := FQ.out.B.cell 3
              have f0 := FQ.out.B.frozen 0
              have f1 := FQ.out.B.frozen 1
              have f2 := FQ.out.B.frozen 2
              have f3 := FQ.out.B.frozen 3
              simp at c0 c1 c2 c3
              go_wp2
              have neT : Nonempty (At (fun _ => True)) := ⟨⟨wq, trivial⟩⟩
              refine any_pure [false, false, false, false, false, false, false, false, true, true, true, true, false] 1 rfl (by kernel_rfl) (fun _ _ _ _ _ h => h) ?_
              simp only [selT]
              repeat (go_big_quiet_step (fail))
              refine wpQuiet_nil ?_
              refine any_one 12 (by kernel_rfl) rfl ?_
              go_wp2
              refine any_end (by kernel_rfl) ?_
              clear FQ c0 c1 c2 c3 f0 f1 f2 f3 neT
              go_wp2
              go_roundw
              case rel => exact ⟨k, by go_num, by omega, _, lq, by omega, FN.out⟩
              case measure => simp [intOf]
  | false =>
    have c0 := F6.out.B.cell 0
    have c1 := F6.out.B.cell 1
    have c2 := F6.out.B.cell 2
    have c3 := F6.out.B.cell 3
    have f0 := F6.out.B.frozen 0
    have f1 := F6.out.B.frozen 1
    have f2 := F6.out.B.frozen 2
    have f3 := F6.out.B.frozen 3
    simp at c0 c1 c2 c3
    go_wp2_with (fail)
    refine (size_c _ zs 14 w6 F6.out.D.rd (by decide) (by decide)).mono ?_
    rintro e w7' ⟨z, rfl, za, zb, hw7⟩
    obtain rfl : w6 = w7' := hw7.symm
    go_wp2_with (fail)
    refine (below_c g cv zs (2 * z) w6 F6.out.D (by omega)).mono ?_
    rintro e w7 ⟨q, rfl, qa, qb, -, d', g'⟩
    have F7 : Hid (Fd g cv zs w b5 s p m0 (.slice none 0 0) [] w7) := F6.out.draw d' g'
    clear d' g' F6 c0 c1 c2 c3 f0 f1 f2 f3
    obtain ⟨Q, rfl⟩ : ∃ Q : Nat, q = Q := ⟨q.toNat, by omega⟩
    have hQ : Q ≤ 27 := by omega
    obtain ⟨m, F7, hmm⟩ : ∃ m, Hid (Fd g cv zs w b5 s p m (.slice none 0 0) [] w7) ∧ (1 ≤ m ∧ m ≤ 7) := ⟨_, F7, by omega⟩
    go_wp2
    go_loopw [7] (fun i wr => ∃ k : Nat, i = .int .i64 k ∧ k ≤ 27 ∧ ∃ V ls, ls.length + k ≤ 27 ∧ Hid (Fd g cv zs w b5 s p m V ls wr)) (fun i _ => (intOf i).toNat)
    case atStart => exact ⟨Q, rfl, hQ, _, [], by simpa using hQ, F7.out⟩
    case round =>
      obtain ⟨k, rfl, hk, V, ls, hkl, FK⟩ := hrel
      clear F7
      obtain ⟨av, cpv, hV, -⟩ := own_form FK.out.O
      obtain ⟨ln, hln⟩ : ∃ ln, ls.length = ln := ⟨_, rfl⟩
      rw [hln] at hV
      subst hV
      have c0 := FK.out.B.cell 0
      have c1 := FK.out.B.cell 1
      have c2 := FK.out.B.cell 2
      have c3 := FK.out.B.cell 3
      have f0 := FK.out.B.frozen 0
      have f1 := FK.out.B.frozen 1
      have f2 := FK.out.B.frozen 2
      have f3 := FK.out.B.frozen 3
      simp at c0 c1 c2 c3
      cases k with
      | zero =>
        have d0 := FK.out.R.cell 0
        have d1 := FK.out.R.cell 1
        have d2 := FK.out.R.cell 2
        have d3 := FK.out.R.cell 3
        have e0 := FK.out.R.frozen 0
        have e1 := FK.out.R.frozen 1
        have e2 := FK.out.R.frozen 2
        have e3 := FK.out.R.frozen 3
        simp at d0 d1 d2 d3
        have hbl := FK.out.lt
        have hnb : ¬ (w.heap.size = b5) := by omega
        have hnb' : ¬ (b5 = w.heap.size) := by omega
        have HFN := FK.out.fin
        have HF : Hid (∀ W4, (((wr.setCell ⟨w.heap.size, 0, none⟩ (.int .i64 s)).setCell ⟨w.heap.size, 1, none⟩ (.int .i64 p)).setCell ⟨w.heap.size, 2, none⟩ (.int .i64 m)).setCell ⟨w.heap.size, 3, none⟩ (.slice av ln cpv) = W4 → Blk W4 w.heap.size (F4 s p m (.slice av ln cpv)) 26 ∧ Ot 35 w.heap.size W4 (.slice av ln cpv) ls ∧ Dr W4 g cv zs ∧ w.grownBy W4 (some g)) := HFN
        clear HFN
        have hlb : ls.length ≤ 27 := by omega
        go_wp2
        exact bodyPost_ret (v := .agg (F4 s p m (.slice av ln cpv))) (results_cell_row rfl _ _ _ 26 _ (0, 0) _ rfl (HF.out _ rfl).1 Tryd.underlying26 rfl size29) rfl ⟨s, p, m, _, ls, rfl, ⟨hs1, hs2⟩, ⟨hp1, hp2⟩, hmm, hlb, (HF.out _ rfl).2⟩
      | succ k =>
        have hkp : (0 : Int) < ((k + 1 : Nat) : Int) := by omega
        go_wp2_with (fail)
        refine (once_c g cv zs 5 wr FK.out.D (by decide)).mono ?_
        rintro e w8 ⟨r, rfl, d', g'⟩
        have F8 : Hid (Fd g cv zs w b5 s p m (.slice av ln cpv) ls w8) := FK.out.draw d' g'
        clear d' g' FK
        clear c0 c1 c2 c3 f0 f1 f2 f3
        cases r with
        | true =>
          go_wp2
          refine region_any0 (by kernel_rfl) ?_
          have FA : Hid (Fd g cv zs w b5 s p m (.slice av ln cpv) ls w8.drew) := F8.out.below (Below.refl _ _).drew
          obtain ⟨w9, hw9⟩ : ∃ x, w8.drew = x := ⟨_, rfl⟩
          rw [hw9] at FA ⊢
          clear hw9 F8
          refine any_pure [false, true, true, false, false, false, false, false, false] 7 rfl (by kernel_rfl) (fun _ _ _ _ _ h => h) ?_
          simp only [selT]
          repeat (go_big_quiet_step (fail))
          refine wpQuiet_nil ?_
          have c0 := FA.out.B.cell 0
          have c1 := FA.out.B.cell 1
          have c2 := FA.out.B.cell 2
          have c3 := FA.out.B.cell 3
          have f0 := FA.out.B.frozen 0
          have f1 := FA.out.B.frozen 1
          have f2 := FA.out.B.frozen 2
          have f3 := FA.out.B.frozen 3
          simp at c0 c1 c2 c3
          refine any_two 0 3 (by kernel_rfl) rfl rfl ?_ ?_
          · go_wp2
            refine any_one 3 (by kernel_rfl) rfl ?_
            go_wp2_with (fail)
            refine (below_c g cv zs (s * p) w9 FA.out.D (by omega)).mono ?_
            rintro e w10 ⟨x, rfl, xa, xb, -, d', g'⟩
            have FB : Hid (Fd g cv zs w b5 s p m (.slice av ln cpv) ls w10) := FA.out.draw d' g'
            clear d' g' FA
            go_wp2
            refine any_one 4 (by kernel_rfl) rfl ?_
            go_wp2_with (fail)
            refine (relM_c s p m x _ ls w10 FB.out.O.rd (by omega)).mono ?_
            rintro e wq ⟨vq, lq, cq, rfl, hsq, oq, bq⟩
            have hlen := hsq.len
            have FQ : Hid (Fd g cv zs w b5 s p m (.slice av ln cpv) ls wq) := FB.out.below bq
            have oq' : Ot 35 (w.heap.size + 1) wq vq lq := oq.mono (by have := FB.out.R.lt; omega)
            obtain ⟨aq, cpq, hvq, -⟩ := own_form oq
            subst hvq
            have FN : Hid (Fd g cv zs w b5 s p m (.slice aq lq.length cpq) lq ((((wq.setCell ⟨b5, 0, none⟩ (.int .i64 s)).setCell ⟨b5, 1, none⟩ (.int .i64 p)).setCell ⟨b5, 2, none⟩ (.int .i64 m)).setCell ⟨b5, 3, none⟩ (.slice aq lq.length cpq))) := FQ.out.put oq'
            clear hsq oq oq' bq FB
            clear c0 c1 c2 c3 f0 f1 f2 f3
            have c0 := FQ.out.B.cell 0
            have c1 := FQ.out.B.cell 1
            have c2 := FQ.out.B.cell 2
            have c3 := FQ.out.B.cell 3
            have f0 := FQ.out.B.frozen 0
            have f1 := FQ.out.B.frozen 1
            have f2 := FQ.out.B.frozen 2
            have f3 := FQ.out.B.frozen 3
            simp at c0 c1 c2 c3
            go_wp2
            have neT : Nonempty (At (fun _ => True)) := ⟨⟨wq, trivial⟩⟩
            refine any_pure [false, false, false, false, false, true, true, true, false] 1 rfl (by kernel_rfl) (fun _ _ _ _ _ h => h) ?_
            simp only [selT]
            repeat (go_big_quiet_step (fail))
            refine wpQuiet_nil ?_
            refine any_one 8 (by kernel_rfl) rfl ?_
            go_wp2
            refine any_end (by kernel_rfl) ?_
            clear FQ c0 c1 c2 c3 f0 f1 f2 f3 neT
            go_wp2
            go_roundw
            case rel => exact ⟨k, by go_num, by omega, _, lq, by omega, FN.out⟩
            case measure => simp [intOf]
          · go_wp2_with (fail)
            refine (below_c g cv zs (s * p) w9 FA.out.D (by omega)).mono ?_
            rintro e w10 ⟨x, rfl, xa, xb, -, d', g'⟩
            have FB : Hid (Fd g cv zs w b5 s p m (.slice av ln cpv) ls w10) := FA.out.draw d' g'
            clear d' g' FA
            go_wp2
            clear c0 c1 c2 c3 f0 f1 f2 f3
            have c0 := FB.out.B.cell 0
            have c1 := FB.out.B.cell 1
            have c2 := FB.out.B.cell 2
            have c3 := FB.out.B.cell 3
            have f0 := FB.out.B.frozen 0
            have f1 := FB.out.B.frozen 1
            have f2 := FB.out.B.frozen 2
            have f3 := FB.out.B.frozen 3
            simp at c0 c1 c2 c3
            refine any_one 0 (by kernel_rfl) rfl ?_
            go_wp2
            refine any_one 4 (by kernel_rfl) rfl ?_
            go_wp2_with (fail)
            refine (relM_c s p m x _ ls w10 FB.out.O.rd (by omega)).mono ?_
            rintro e wq ⟨vq, lq, cq, rfl, hsq, oq, bq⟩
            have hlen := hsq.len
            have FQ : Hid (Fd g cv zs w b5 s p m (.slice av ln cpv) ls wq) := FB.out.below bq
            have oq' : Ot 35 (w.heap.size + 1) wq vq lq := oq.mono (by have := FB.out.R.lt; omega)
            obtain ⟨aq, cpq, hvq, -⟩ := own_form oq
            subst hvq
            have FN : Hid (Fd g cv zs w b5 s p m (.slice aq lq.length cpq) lq ((((wq.setCell ⟨b5, 0, none⟩ (.int .i64 s)).setCell ⟨b5, 1, none⟩ (.int .i64 p)).setCell ⟨b5, 2, none⟩ (.int .i64 m)).setCell ⟨b5, 3, none⟩ (.slice aq lq.length cpq))) := FQ.out.put oq'
            clear hsq oq oq' bq FB
            clear c0 c1 c2 c3 f0 f1 f2 f3
            have c0 := FQ.out.B.cell 0
            have c1 := FQ.out.B.cell 1
            have c2 := FQ.out.B.cell 2
            have c3 := FQ.out.B.cell 3
            have f0 := FQ.out.B.frozen 0
            have f1 := FQ.out.B.frozen 1
            have f2 := FQ.out.B.frozen 2
            have f3 := FQ.out.B.frozen 3
            simp at c0 c1 c2 c3
            go_wp2
            have neT : Nonempty (At (fun _ => True)) := ⟨⟨wq, trivial⟩⟩
            refine any_pure [false, false, false, false, false, true, true, true, false] 1 rfl (by kernel_rfl) (fun _ _ _ _ _ h => h) ?_
            simp only [selT]
            repeat (go_big_quiet_step (fail))
            refine wpQuiet_nil ?_
            refine any_one 8 (by kernel_rfl) rfl ?_
            go_wp2
            refine any_end (by kernel_rfl) ?_
            clear FQ c0 c1 c2 c3 f0 f1 f2 f3 neT
            go_wp2
            go_roundw
            case rel => exact ⟨k, by go_num, by omega, _, lq, by omega, FN.out⟩
            case measure => simp [intOf]
        | false =>
          go_wp2
          refine region_any0 (by kernel_rfl) ?_
          have FA : Hid (Fd g cv zs w b5 s p m (.slice av ln cpv) ls w8.drew) := F8.out.below (Below.refl _ _).drew
          obtain ⟨w9, hw9⟩ : ∃ x, w8.drew = x := ⟨_, rfl⟩
          rw [hw9] at FA ⊢
          clear hw9 F8
          refine any_pure [false, true, true, false, true, true, false, false, false, false, false, false, false] 9 rfl (by kernel_rfl) (fun _ _ _ _ _ h => h) ?_
          simp only [selT]
          repeat (go_big_quiet_step (fail))
          refine wpQuiet_nil ?_
          have c0 := FA.out.B.cell 0
          have c1 := FA.out.B.cell 1
          have c2 := FA.out.B.cell 2
          have c3 := FA.out.B.cell 3
          have f0 := FA.out.B.frozen 0
          have f1 := FA.out.B.frozen 1
          have f2 := FA.out.B.frozen 2
          have f3 := FA.out.B.frozen 3
          simp at c0 c1 c2 c3
          refine any_two 0 3 (by kernel_rfl) rfl rfl ?_ ?_
          · go_wp2
            refine any_one 3 (by kernel_rfl) rfl ?_
            go_wp2_with (fail)
            refine (below_c g cv zs (s * p) w9 FA.out.D (by omega)).mono ?_
            rintro e w10 ⟨x, rfl, xa, xb, -, d', g'⟩
            have FB : Hid (Fd g cv zs w b5 s p m (.slice av ln cpv) ls w10) := FA.out.draw d' g'
            clear d' g' FA
            go_wp2
            refine any_one 6 (by kernel_rfl) rfl ?_
            go_wp2_with (fail)
            refine (below_c g cv zs (s * p) w10 FB.out.D (by omega)).mono ?_
            rintro e w11 ⟨y, rfl, ya, yb, -, d', g'⟩
            have FC : Hid (Fd g cv zs w b5 s p m (.slice av ln cpv) ls w11) := FB.out.draw d' g'
            clear d' g' FB
            go_wp2
            refine any_one 7 (by kernel_rfl) rfl ?_
            go_wp2_with (fail)
            refine (conM_c s p m x y _ ls w11 FC.out.O.rd (by omega)).mono ?_
            rintro e wq ⟨vq, lq, mvq, mq, cq, rfl, hsq, oq, -, -, bq⟩
            have hlen := hsq.len.1
            have FQ : Hid (Fd g cv zs w b5 s p m (.slice av ln cpv) ls wq) := FC.out.below bq
            have oq' : Ot 35 (w.heap.size + 1) wq vq lq := oq.mono (by have := FC.out.R.lt; omega)
            obtain ⟨aq, cpq, hvq, -⟩ := own_form oq
            subst hvq
            have FN : Hid (Fd g cv zs w b5 s p m (.slice aq lq.length cpq) lq ((((wq.setCell ⟨b5, 0, none⟩ (.int .i64 s)).setCell ⟨b5, 1, none⟩ (.int .i64 p)).setCell ⟨b5, 2, none⟩ (.int .i64 m)).setCell ⟨b5, 3, none⟩ (.slice aq lq.length cpq))) := FQ.out.put oq'
            clear hsq oq oq' bq FC
            clear c0 c1 c2 c3 f0 f1 f2 f3
            have c0 := FQ.out.B.cell 0
            have c1 := FQ.out.B.cell 1
            have c2 := FQ.out.B.cell 2
            have c3 := FQ.out.B.cell 3
            have f0 := FQ.out.B.frozen 0
            have f1 := FQ.out.B.frozen 1
            have f2 := FQ.out.B.frozen 2
            have f3 := FQ.out.B.frozen 3
            simp at c0 c1 c2 c3
            go_wp2
            have neT : Nonempty (At (fun _ => True)) := ⟨⟨wq, trivial⟩⟩
            refine any_pure [false, false, false, false, false, false, false, false, true, true, true, true, false] 1 rfl (by kernel_rfl) (fun _ _ _ _ _ h => h) ?_
            simp only [selT]
            repeat (go_big_quiet_step (fail))
            refine wpQuiet_nil ?_
            refine any_one 12 (by kernel_rfl) rfl ?_
            go_wp2
            refine any_end (by kernel_rfl) ?_
            clear FQ c0 c1 c2 c3 f0 f1 f2 f3 neT
            go_wp2
            go_roundw
            case rel => exact ⟨k, by go_num, by omega, _, lq, by omega, FN.out⟩
            case measure => simp [intOf]
          · go_wp2_with (fail)
            refine (below_c g cv zs (s * p) w9 FA.out.D (by omega)).mono ?_
            rintro e w10 ⟨x, rfl, xa, xb, -, d', g'⟩
            have FB : Hid (Fd g cv zs w b5 s p m (.slice av ln cpv) ls w10) := FA.out.draw d' g'
            clear d' g' FA
            go_wp2
            clear c0 c1 c2 c3 f0 f1 f2 f3
            have c0 := FB.out.B.cell 0
            have c1 := FB.out.B.cell 1
            have c2 := FB.out.B.cell 2
            have c3 := FB.out.B.cell 3
            have f0 := FB.out.B.frozen 0
            have f1 := FB.out.B.frozen 1
            have f2 := FB.out.B.frozen 2
            have f3 := FB.out.B.frozen 3
            simp at c0 c1 c2 c3
            refine any_two 0 6 (by kernel_rfl) rfl rfl ?_ ?_
            · go_wp2
              refine any_one 6 (by kernel_rfl) rfl ?_
              go_wp2_with (fail)
              refine (below_c g cv zs (s * p) w10 FB.out.D (by omega)).mono ?_
              rintro e w11 ⟨y, rfl, ya, yb, -, d', g'⟩
              have FC : Hid (Fd g cv zs w b5 s p m (.slice av ln cpv) ls w11) := FB.out.draw d' g'
              clear d' g' FB
              go_wp2
              refine any_one 7 (by kernel_rfl) rfl ?_
              go_wp2_with (fail)
              refine (conM_c s p m x y _ ls w11 FC.out.O.rd (by omega)).mono ?_
              rintro e wq ⟨vq, lq, mvq, mq, cq, rfl, hsq, oq, -, -, bq⟩
              have hlen := hsq.len.1
              have FQ : Hid (Fd g cv zs w b5 s p m (.slice av ln cpv) ls wq) := FC.out.below bq
              have oq' : Ot 35 (w.heap.size + 1) wq vq lq := oq.mono (by have := FC.out.R.lt; omega)
              obtain ⟨aq, cpq, hvq, -⟩ := own_form oq
              subst hvq
              have FN : Hid (Fd g cv zs w b5 s p m (.slice aq lq.length cpq) lq ((((wq.setCell ⟨b5, 0, none⟩ (.int .i64 s)).setCell ⟨b5, 1, none⟩ (.int .i64 p)).setCell ⟨b5, 2, none⟩ (.int .i64 m)).setCell ⟨b5, 3, none⟩ (.slice aq lq.length cpq))) := FQ.out.put oq'
              clear hsq oq oq' bq FC
              clear c0 c1 c2 c3 f0 f1 f2 f3
              have c0 := FQ.out.B.cell 0
              have c1 := FQ.out.B.cell 1
              have c2 := FQ.out.B.cell 2
              have c3 := FQ.out.B.cell 3
              have f0 := FQ.out.B.frozen 0
              have f1 := FQ.out.B.frozen 1
              have f2 := FQ.out.B.frozen 2
              have f3 := FQ.out.B.frozen 3
              simp at c0 c1 c2 c3
              go_wp2
              have neT : Nonempty (At (fun _ => True)) := ⟨⟨wq, trivial⟩⟩
              refine any_pure [false, false, false, false, false, false, false, false, true, true, true, true, false] 1 rfl (by kernel_rfl) (fun _ _ _ _ _ h => h) ?_
              simp only [selT]
              repeat (go_big_quiet_step (fail))
              refine wpQuiet_nil ?_
              refine any_one 12 (by kernel_rfl) rfl ?_
              go_wp2
              refine any_end (by kernel_rfl) ?_
              clear FQ c0 c1 c2 c3 f0 f1 f2 f3 neT
              go_wp2
              go_roundw
              case rel => exact ⟨k, by go_num, by omega, _, lq, by omega, FN.out⟩
              case measure => simp [intOf]
            · go_wp2_with (fail)
              refine (below_c g cv zs (s * p) w10 FB.out.D (by omega)).mono ?_
              rintro e w11 ⟨y, rfl, ya, yb, -, d', g'⟩
              have FC : Hid (Fd g cv zs w b5 s p m (.slice av ln cpv) ls w11) := FB.out.draw d' g'
              clear d' g' FB
              go_wp2
              clear c0 c1 c2 c3 f0 f1 f2 f3
              have c0 := FC.out.B.cell 0
              have c1 := FC.out.B.cell 1
              have c2 := FC.out.B.cell 2
              have c3 := FC.out.B.cell 3
              have f0 := FC.out.B.frozen 0
              have f1 := FC.out.B.frozen 1
              have f2 := FC.out.B.frozen 2
              have f3 := FC.out.B.frozen 3
              simp at c0 c1 c2 c3
              refine any_one 0 (by kernel_rfl) rfl ?_
              go_wp2
              refine any_one 7 (by kernel_rfl) rfl ?_
              go_wp2_with (fail)
              refine (conM_c s p m x y _ ls w11 FC.out.O.rd (by omega)).mono ?_
              rintro e wq ⟨vq, lq, mvq, mq, cq, rfl, hsq, oq, -, -, bq⟩
              have hlen := hsq.len.1
              have FQ : Hid (Fd g cv zs w b5 s p m (.slice av ln cpv) ls wq) := FC.out.below bq
              have oq' : Ot 35 (w.heap.size + 1) wq vq lq := oq.mono (by have := FC.out.R.lt; omega)
              obtain ⟨aq, cpq, hvq, -⟩ := own_form oq
              subst hvq
              have FN : Hid (Fd g cv zs w b5 s p m (.slice aq lq.length cpq) lq ((((wq.setCell ⟨b5, 0, none⟩ (.int .i64 s)).setCell ⟨b5, 1, none⟩ (.int .i64 p)).setCell ⟨b5, 2, none⟩ (.int .i64 m)).setCell ⟨b5, 3, none⟩ (.slice aq lq.length cpq))) := FQ.out.put oq'
              clear hsq oq oq' bq FC
              clear c0 c1 c2 c3 f0 f1 f2 f3
              have c0 := FQ.out.B.cell 0
              have c1 := FQ.out.B.cell 1
              have c2 := FQ.out.B.cell 2
              have c3 := FQ.out.B.cell 3
              have f0 := FQ.out.B.frozen 0
              have f1 := FQ.out.B.frozen 1
              have f2 := FQ.out.B.frozen 2
              have f3 := FQ.out.B.frozen 3
              simp at c0 c1 c2 c3
              go_wp2
              have neT : Nonempty (At (fun _ => True)) := ⟨⟨wq, trivial⟩⟩
              refine any_pure [false, false, false, false, false, false, false, false, true, true, true, true, false] 1 rfl (by kernel_rfl) (fun _ _ _ _ _ h => h) ?_
              simp only [selT]
              repeat (go_big_quiet_step (fail))
              refine wpQuiet_nil ?_
              refine any_one 12 (by kernel_rfl) rfl ?_
              go_wp2
              refine any_end (by kernel_rfl) ?_
              clear FQ c0 c1 c2 c3 f0 f1 f2 f3 neT
              go_wp2
              go_roundw
              case rel => exact ⟨k, by go_num, by omega, _, lq, by omega, FN.out⟩
              case measure => simp [intOf]
end Go.Proofs.YtikhfeafbckjlaaDoor
