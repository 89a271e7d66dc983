/- The contract of the model's function that draws an op: some op, the cursor moved; no condition but that there are not too many lines. -/
import Derived.Test.YtcbeaimpmjljjaaDrawB
import Derived.Test.YtcbeaimpmjljjaaWir
namespace Go.Proofs.Ytcbeaimpmjljjaa
open Go.RowKit Go.ChangeShapes Go.WideShapes Go.ChangeAt
set_option linter.unusedVariables false
set_option linter.unusedSimpArgs false
set_option maxRecDepth 8000
theorem Blk.grownE {w w' : World} {b g : Nat} {cs : Array Value} {t : TypeId} (h : Blk w b cs t) (hg : w.grownBy w' (some g)) (hne : b ≠ g) : Blk w' b cs t :=
  (hg.block b h.lt (fun e => hne (Option.some.inj e))).trans h
theorem size35 : (Try.prog.info? 35).map (·.size) = some 3 := by kernel_rfl
/-- an op at work, and the cursor -/
structure Ops (w : World) (g b5 : Nat) (cv : Value) (zs : List Int) (W : World) (x y z : Int) : Prop where
  dr : Dr W g cv zs
  gr : w.grownBy W (some g)
  res : Blk W w.heap.size #[.int .i64 0, .int .i64 0, .int .i64 0] 35
  op : Blk W b5 #[.int .i64 x, .int .i64 y, .int .i64 z] 35
theorem Ops.call {w W W' : World} {g b5 : Nat} {cv : Value} {zs : List Int} {x y z : Int} (h : Ops w g b5 cv zs W x y z) (hg : g < w.heap.size) (hb : w.heap.size < b5) (hd : Dr W' g cv zs) (hgr : W.grownBy W' (some g)) : Ops w g b5 cv zs W' x y z :=
  ⟨hd, grown_trans h.gr hgr, h.res.grownE hgr (by omega), h.op.grownE hgr (by omega)⟩
theorem Ops.turn {w W W' : World} {g b5 : Nat} {cv : Value} {zs : List Int} {x y z x' y' z' : Int} (h0 : Dr w g cv zs) (h : Ops w g b5 cv zs W x y z) (hb : w.heap.size < b5) (hbl : Below (w.heap.size + 1) W W') (ho : Blk W' b5 #[.int .i64 x', .int .i64 y', .int .i64 z'] 35) : Ops w g b5 cv zs W' x' y' z' := by
  obtain ⟨d, gg⟩ := h0.onto h.dr h.gr (hbl.mono (by omega))
  exact ⟨d, gg, h.res.below hbl (by omega), ho⟩
theorem Ops.done {w W : World} {g b5 : Nat} {cv : Value} {zs : List Int} {x y z : Int} (h0 : Dr w g cv zs) (h : Ops w g b5 cv zs W x y z) : ∀ W4, ((W.setCell ⟨w.heap.size, 0, none⟩ (.int .i64 x)).setCell ⟨w.heap.size, 1, none⟩ (.int .i64 y)).setCell ⟨w.heap.size, 2, none⟩ (.int .i64 z) = W4 →
    Blk W4 w.heap.size #[.int .i64 x, .int .i64 y, .int .i64 z] 35 ∧ Dr W4 g cv zs ∧ w.grownBy W4 (some g) := by
  rintro _ rfl
  refine ⟨?_, h0.onto h.dr h.gr ((((Below.refl _ _).setCell (by exact Nat.le_refl _) _).setCell (by exact Nat.le_refl _) _).setCell (by exact Nat.le_refl _) _)⟩
  have := ((h.res.set 0 (.int .i64 x)).set 1 (.int .i64 y)).set 2 (.int .i64 z)
  simpa using this
set_option maxHeartbeats 3200000 in
theorem drawOp_c (g : Nat) (cv : Value) (zs : List Int) (n : Int) (w : World) (h : Dr w g cv zs) (hn0 : -1000000 ≤ n) (hn : n ≤ 1000000) :
   Calls Try.prog 80 #[.pointer (some ⟨g, 0, none⟩), .int .i64 n] w fun e w' => ∃ k a b : Int, e = .returned (.agg #[.int .i64 k, .int .i64 a, .int .i64 b]) ∧ Dr w' g cv zs ∧ w.grownBy w' (some g) := by
  have hgl := h.lt
  obtain ⟨W1, hW1⟩ : ∃ W1, (w.alloc (Obj.cells #[.int .i64 0, .int .i64 0, .int .i64 0] 35)).alloc (Obj.cells #[.int .i64 1, .int .i64 1, .int .i64 1, .int .i64 2, .int .i64 3, .int .i64 4, .int .i64 5, .int .i64 6] 3) = W1 := ⟨_, rfl⟩
  have kb : Below w.heap.size w W1 := hW1 ▸ ((Below.refl _ _).alloc (Nat.le_refl _) _).alloc (by simp) _
  have k4 : Blk W1 w.heap.size #[.int .i64 0, .int .i64 0, .int .i64 0] 35 := hW1 ▸ (Blk.newAt _ _ _ 35 rfl).alloc _
  have kl : Blk W1 (w.heap.size + 1) #[.int .i64 1, .int .i64 1, .int .i64 1, .int .i64 2, .int .i64 3, .int .i64 4, .int .i64 5, .int .i64 6] 3 := hW1 ▸ Blk.newAt _ _ _ 3 (by simp)
  have hR : Rd .i64 W1 (.slice (some ⟨w.heap.size + 1, 0, none⟩) 8 8) [1, 1, 1, 2, 3, 4, 5, 6] := by
    refine ⟨_, 8, rfl, by simp, by simp [maxLen], .inr ⟨w.heap.size + 1, 0, rfl, fun i hi => ?_⟩⟩
    have hi8 : i < 8 := by simpa using hi
    rw [Nat.zero_add, kl.cell i]
    match i, hi8 with
    | 0, _ => rfl
    | 1, _ => rfl
    | 2, _ => rfl
    | 3, _ => rfl
    | 4, _ => rfl
    | 5, _ => rfl
    | 6, _ => rfl
    | 7, _ => rfl
  have HC : Hid (Calls Try.prog 68 #[.pointer (some ⟨g, 0, none⟩), .slice (some ⟨w.heap.size + 1, 0, none⟩) 8 8] W1 fun e w' => ∃ x : Int, e = .returned (.int .i64 x) ∧ Dr w' g cv zs ∧ W1.grownBy w' (some g)) := pickInt_c g cv zs _ _ W1 (h.below kb) hR (.inr (by simp [Value.ownBlock]; omega)) (by simp) (by simp)
  have HW : Hid ((w.alloc (Obj.cells #[.int .i64 0, .int .i64 0, .int .i64 0] 35)).alloc (Obj.cells #[.int .i64 1, .int .i64 1, .int .i64 1, .int .i64 2, .int .i64 3, .int .i64 4, .int .i64 5, .int .i64 6] 3) = W1) := hW1
  have HK : Hid (Blk W1 w.heap.size #[.int .i64 0, .int .i64 0, .int .i64 0] 35) := k4
  have HB : Hid (w.grownBy W1 (some g)) := ⟨kb.os, kb.tape, kb.output, kb.size, fun j hj _ => kb.block j hj⟩
  clear hW1 kb k4 kl hR
  go_enter Try.func80, Try.ntmps80
  go_wp2_with (fail)
  rw [HW.out]
  refine HC.out.mono ?_
  rintro e w2 ⟨x, rfl, D2, g2⟩
  have HK2 : Hid (Blk w2 w.heap.size #[.int .i64 0, .int .i64 0, .int .i64 0] 35) := HK.out.grownE g2 (by omega)
  have HB2 : Hid (w.grownBy w2 (some g)) := grown_trans HB.out g2
  have HD2 : Hid (Dr w2 g cv zs) := D2
  clear HC HW HK HB D2 g2
  go_wp2_with (fail)
  refine (below_c g cv zs n w2 HD2.out (by omega)).mono ?_
  rintro e w3 ⟨y, rfl, -, -, -, D3, g3⟩
  have k3 : Blk w3 w.heap.size #[.int .i64 0, .int .i64 0, .int .i64 0] 35 := HK2.out.grownE g3 (by omega)
  have b3 : w.grownBy w3 (some g) := grown_trans HB2.out g3
  have hs3 := k3.lt
  have hg3 := D3.lt
  have H0 : Hid (Dr w g cv zs) := h
  have D4 : Hid (Ops w g w3.heap.size cv zs (w3.alloc (Obj.cells #[.int .i64 x, .int .i64 y, .int .i64 0] 35)) x y 0) := by
    have kb : Below w3.heap.size w3 (w3.alloc (Obj.cells #[.int .i64 x, .int .i64 y, .int .i64 0] 35)) := (Below.refl _ _).alloc (Nat.le_refl _) _
    exact ⟨D3.below kb, grown_then_below b3 (kb.mono (by omega)), k3.alloc _, Blk.new _ _ _⟩
  clear D3 k3 b3 g3 HK2 HB2 HD2 h
  by_cases hx : x = 1
  · subst hx
    go_wp2_with (fail)
    refine (below_c g cv zs n _ D4.out.dr (by omega)).mono ?_
    rintro e w5 ⟨z, rfl, -, -, -, d5, g5⟩
    have D5 : Hid (Ops w g w3.heap.size cv zs w5 1 y 0) := D4.out.call hgl hs3 d5 g5
    clear d5 g5
    have p2 := D5.out.op.cell 2
    have q2 := D5.out.op.frozen 2
    simp at p2
    have DD5 : Hid (Ops w g w3.heap.size cv zs (w5.setCell ⟨w3.heap.size, 2, none⟩ (.int .i64 z)) 1 y z) := by
      refine Ops.turn H0.out D5.out hs3 ((Below.refl _ _).setCell (by exact hs3) _) ?_
      have := D5.out.op.set 2 (.int .i64 z)
      simpa using this
    go_wp2_with (fail)
    refine (once_c g cv zs 40 _ DD5.out.dr (by decide)).mono ?_
    rintro e w6 ⟨bb, rfl, d6, g6⟩
    have D6 : Hid (Ops w g w3.heap.size cv zs w6 1 y z) := DD5.out.call hgl hs3 d6 g6
    clear d6 g6
    cases bb
    · have c0 := D6.out.op.cell 0
      have c1 := D6.out.op.cell 1
      have c2 := D6.out.op.cell 2
      have e0 := D6.out.res.cell 0
      have e1 := D6.out.res.cell 1
      have e2 := D6.out.res.cell 2
      have f0 := D6.out.res.frozen 0
      have f1 := D6.out.res.frozen 1
      have f2 := D6.out.res.frozen 2
      simp at c0 c1 c2 e0 e1 e2
      go_wp2
      exact bodyPost_ret (v := .agg #[.int .i64 (1), .int .i64 (y), .int .i64 (z)]) (results_cell_row rfl _ _ _ 35 _ (0, 0) _ rfl (D6.out.done H0.out _ rfl).1 Try.underlying35 rfl size35) rfl ⟨_, _, _, rfl, (D6.out.done H0.out _ rfl).2⟩
    · go_wp2_with (fail)
      refine (below_c g cv zs 9 _ D6.out.dr (by decide)).mono ?_
      rintro e w7 ⟨k7, rfl, r70, r71, -, d7, g7⟩
      have r72 := r71 (by decide)
      have D7 : Hid (Ops w g w3.heap.size cv zs w7 1 y z) := D6.out.call hgl hs3 d7 g7
      clear d7 g7 r71
      go_wp2_with (fail)
      refine (below_c g cv zs (n + 2) _ D7.out.dr (by omega)).mono ?_
      rintro e w8 ⟨k8, rfl, r80, r81, r82, d8, g8⟩
      have r83 : k8 ≤ 1000002 := by by_cases hh : 0 < n + 2; (have := r81 hh; omega); (have := r82 (by omega); omega)
      have D8 : Hid (Ops w g w3.heap.size cv zs w8 1 y z) := D7.out.call hgl hs3 d8 g8
      clear d8 g8 r81 r82
      go_wp2_with (fail)
      refine (below_c g cv zs (n + 2) _ D8.out.dr (by omega)).mono ?_
      rintro e w9 ⟨k9, rfl, r90, r91, r92, d9, g9⟩
      have r93 : k9 ≤ 1000002 := by by_cases hh : 0 < n + 2; (have := r91 hh; omega); (have := r92 (by omega); omega)
      have D9 : Hid (Ops w g w3.heap.size cv zs w9 1 y z) := D8.out.call hgl hs3 d9 g9
      clear d9 g9 r91 r92
      have p0 := D9.out.op.cell 0
      have p1 := D9.out.op.cell 1
      have p2 := D9.out.op.cell 2
      have q0 := D9.out.op.frozen 0
      have q1 := D9.out.op.frozen 1
      have q2 := D9.out.op.frozen 2
      simp at p0 p1 p2
      have e0 := D9.out.res.cell 0
      have e1 := D9.out.res.cell 1
      have e2 := D9.out.res.cell 2
      have f0 := D9.out.res.frozen 0
      have f1 := D9.out.res.frozen 1
      have f2 := D9.out.res.frozen 2
      simp at e0 e1 e2
      have nn : ¬ w.heap.size = w3.heap.size := by omega
      have nn' : ¬ w3.heap.size = w.heap.size := by omega
      have DD : Hid (Ops w g w3.heap.size cv zs (((w9.setCell ⟨w3.heap.size, 0, none⟩ (.int .i64 (k7 - 1))).setCell ⟨w3.heap.size, 1, none⟩ (.int .i64 (k8 - 1))).setCell ⟨w3.heap.size, 2, none⟩ (.int .i64 (k9 - 1))) (k7 - 1) (k8 - 1) (k9 - 1)) := by
        refine Ops.turn H0.out D9.out hs3 ((((Below.refl _ _).setCell (by exact hs3) _).setCell (by exact hs3) _).setCell (by exact hs3) _) ?_
        have := ((D9.out.op.set 0 (.int .i64 (k7 - 1))).set 1 (.int .i64 (k8 - 1))).set 2 (.int .i64 (k9 - 1))
        simpa using this
      go_wp2
      exact bodyPost_ret (v := .agg #[.int .i64 (k7 - 1), .int .i64 (k8 - 1), .int .i64 (k9 - 1)]) (results_cell_row rfl _ _ _ 35 _ (0, 0) _ rfl (DD.out.done H0.out _ rfl).1 Try.underlying35 rfl size35) rfl ⟨_, _, _, rfl, (DD.out.done H0.out _ rfl).2⟩
  · have hx' : ¬ ((x : Int) = 1) := hx
    go_wp2_with (fail)
    refine (once_c g cv zs 40 _ D4.out.dr (by decide)).mono ?_
    rintro e w6 ⟨bb, rfl, d6, g6⟩
    have D6 : Hid (Ops w g w3.heap.size cv zs w6 x y 0) := D4.out.call hgl hs3 d6 g6
    clear d6 g6
    cases bb
    · have c0 := D6.out.op.cell 0
      have c1 := D6.out.op.cell 1
      have c2 := D6.out.op.cell 2
      have e0 := D6.out.res.cell 0
      have e1 := D6.out.res.cell 1
      have e2 := D6.out.res.cell 2
      have f0 := D6.out.res.frozen 0
      have f1 := D6.out.res.frozen 1
      have f2 := D6.out.res.frozen 2
      simp at c0 c1 c2 e0 e1 e2
      go_wp2
      exact bodyPost_ret (v := .agg #[.int .i64 (x), .int .i64 (y), .int .i64 (0)]) (results_cell_row rfl _ _ _ 35 _ (0, 0) _ rfl (D6.out.done H0.out _ rfl).1 Try.underlying35 rfl size35) rfl ⟨_, _, _, rfl, (D6.out.done H0.out _ rfl).2⟩
    · go_wp2_with (fail)
      refine (below_c g cv zs 9 _ D6.out.dr (by decide)).mono ?_
      rintro e w7 ⟨k7, rfl, r70, r71, -, d7, g7⟩
      have r72 := r71 (by decide)
      have D7 : Hid (Ops w g w3.heap.size cv zs w7 x y 0) := D6.out.call hgl hs3 d7 g7
      clear d7 g7 r71
      go_wp2_with (fail)
      refine (below_c g cv zs (n + 2) _ D7.out.dr (by omega)).mono ?_
      rintro e w8 ⟨k8, rfl, r80, r81, r82, d8, g8⟩
      have r83 : k8 ≤ 1000002 := by by_cases hh : 0 < n + 2; (have := r81 hh; omega); (have := r82 (by omega); omega)
      have D8 : Hid (Ops w g w3.heap.size cv zs w8 x y 0) := D7.out.call hgl hs3 d8 g8
      clear d8 g8 r81 r82
      go_wp2_with (fail)
      refine (below_c g cv zs (n + 2) _ D8.out.dr (by omega)).mono ?_
      rintro e w9 ⟨k9, rfl, r90, r91, r92, d9, g9⟩
      have r93 : k9 ≤ 1000002 := by by_cases hh : 0 < n + 2; (have := r91 hh; omega); (have := r92 (by omega); omega)
      have D9 : Hid (Ops w g w3.heap.size cv zs w9 x y 0) := D8.out.call hgl hs3 d9 g9
      clear d9 g9 r91 r92
      have p0 := D9.out.op.cell 0
      have p1 := D9.out.op.cell 1
      have p2 := D9.out.op.cell 2
      have q0 := D9.out.op.frozen 0
      have q1 := D9.out.op.frozen 1
      have q2 := D9.out.op.frozen 2
      simp at p0 p1 p2
      have e0 := D9.out.res.cell 0
      have e1 := D9.out.res.cell 1
      have e2 := D9.out.res.cell 2
      have f0 := D9.out.res.frozen 0
      have f1 := D9.out.res.frozen 1
      have f2 := D9.out.res.frozen 2
      simp at e0 e1 e2
      have nn : ¬ w.heap.size = w3.heap.size := by omega
      have nn' : ¬ w3.heap.size = w.heap.size := by omega
      have DD : Hid (Ops w g w3.heap.size cv zs (((w9.setCell ⟨w3.heap.size, 0, none⟩ (.int .i64 (k7 - 1))).setCell ⟨w3.heap.size, 1, none⟩ (.int .i64 (k8 - 1))).setCell ⟨w3.heap.size, 2, none⟩ (.int .i64 (k9 - 1))) (k7 - 1) (k8 - 1) (k9 - 1)) := by
        refine Ops.turn H0.out D9.out hs3 ((((Below.refl _ _).setCell (by exact hs3) _).setCell (by exact hs3) _).setCell (by exact hs3) _) ?_
        have := ((D9.out.op.set 0 (.int .i64 (k7 - 1))).set 1 (.int .i64 (k8 - 1))).set 2 (.int .i64 (k9 - 1))
        simpa using this
      go_wp2
      exact bodyPost_ret (v := .agg #[.int .i64 (k7 - 1), .int .i64 (k8 - 1), .int .i64 (k9 - 1)]) (results_cell_row rfl _ _ _ 35 _ (0, 0) _ rfl (DD.out.done H0.out _ rfl).1 Try.underlying35 rfl size35) rfl ⟨_, _, _, rfl, (DD.out.done H0.out _ rfl).2⟩
end Go.Proofs.Ytcbeaimpmjljjaa
