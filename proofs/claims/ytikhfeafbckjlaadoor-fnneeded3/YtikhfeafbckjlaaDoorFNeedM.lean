/- The contract of the model's Needs; no condition. -/
import Derived.Test.YtikhfeafbckjlaaDoorFNeedI
import Derived.Test.YtikhfeafbckjlaaDoorFOk
import Derived.Test.YtikhfeafbckjlaaDoorRegB
namespace Go.Proofs.YtikhfeafbckjlaaDoor
open Go.RowKit Go.ChangeShapes Go.WideShapes Go.ChangeAt
set_option linter.unusedVariables false
set_option linter.unusedSimpArgs false
set_option maxRecDepth 8000
/-- a row of bools -/
def bl (f : Nat → Bool) (n : Nat) : List Value := (List.range n).map fun i => .bool (f i)
theorem bl_len (f : Nat → Bool) (n : Nat) : (bl f n).length = n := by simp [bl]
theorem bl_at (f : Nat → Bool) (n i : Nat) (h : i < n) : (bl f n)[i]? = some (.bool (f i)) := by simp [bl, List.getElem?_range h]
theorem bl_set (f f' : Nat → Bool) (n k : Nat) (b : Bool) (hk : k < n) (h : ∀ i, f' i = if i = k then b else f i) : (bl f n).set k (.bool b) = bl f' n := by
  apply List.ext_getElem?
  intro i
  rw [List.getElem?_set]
  by_cases hik : k = i
  · subst hik
    rw [bl_at f' n k hk, h k, if_pos rfl, if_pos rfl]
    simp [bl_len, hk]
  · rw [if_neg hik]
    by_cases hi : i < n
    · rw [bl_at f n i hi, bl_at f' n i hi, h i, if_neg (fun e => hik e.symm)]
    · rw [List.getElem?_eq_none (by rw [bl_len]; omega), List.getElem?_eq_none (by rw [bl_len]; omega)]
theorem infoB : (Tryd.prog.info? 4).map (fun i => (i.zero, i.size, i.bytes)) = some (some (.bool false), 1, 1) := by kernel_rfl
abbrev OB (base : Nat) (w : World) (g n : Nat) (f : Nat → Bool) : Prop := w.ownsRow base 4 1 (.slice (some ⟨g, 0, none⟩) n n) n (bl f n)
theorem madeB (n : Nat) : (madeCells (Value.bool false).cells (n * 1)).toList = bl (fun _ => false) n := by
  apply List.ext_getElem?
  intro i
  by_cases hi : i < n
  · rw [bl_at _ n i hi]
    simp [madeCells, List.getElem?_range hi, Value.cells, Nat.mod_one]
  · rw [List.getElem?_eq_none (by simp [madeCells]; omega), List.getElem?_eq_none (by rw [bl_len]; omega)]
theorem wp_makeB {o : Oper} {a : Act} {w : World} {K : Act → World → Prop} {Q : Exit → Act → World → Prop} (l c : Operand) (hop : o.op = .makeSlice 79 l c) (n : Nat) (hl : a.eval l = .int .i64 n) (hc : a.eval c = .int .i64 n) (hn : n ≤ 1000) (base : Nat) (hb : base ≤ w.heap.size)
    (h : ∀ w', OB base w' w.heap.size n (fun _ => false) → w.grownBy w' none → K (a.put o.dst (.slice (some ⟨w.heap.size, 0, none⟩) n n)) w') : o.wp Tryd.prog a w K Q := by
  obtain ⟨i0, hi, hz0, hz1, hz2⟩ := info_parts infoB
  obtain ⟨w', hrun, r1, r2⟩ := run_make_full (P := Tryd.prog) w base 79 4 i0 (.bool false) 1 Tryd.underlying79 hi hz0 hz1 .i64 .i64 n (by rw [hz2]; omega) (by unfold maxLen; omega) hb
  rw [madeB] at r1
  unfold Oper.wp
  simp [execOp, hop, hl, hc, hrun, Result.andThen]
  exact h w' r1 r2
/-- the two lists of bools are made, in whatever order -/
def JM (N base : Nat) (w0 : World) (U : Value → Value → Value → Value → Value → Value → Act) (d : Nat → Bool) (A : Act) (W : World) : Prop :=
  ∃ u0 u1 u2 u3 u4 u5 : Value, A = U u0 u1 u2 u3 u4 u5 ∧ w0.grownBy W none ∧ (d 0 = true → u0 = .int .i64 N) ∧ (d 2 = true → u2 = .int .i64 N) ∧
    (d 1 = true → ∃ g, u1 = .slice (some ⟨g, 0, none⟩) N N ∧ w0.heap.size ≤ g ∧ g < W.heap.size ∧ OB base W g N (fun _ => false) ∧ (d 3 = true → ∀ g', u3 = .slice (some ⟨g', 0, none⟩) N N → g ≠ g')) ∧
    (d 3 = true → ∃ g, u3 = .slice (some ⟨g, 0, none⟩) N N ∧ w0.heap.size ≤ g ∧ g < W.heap.size ∧ OB base W g N (fun _ => false)) ∧ (d 4 = true → d 1 = true ∧ u4 = u1) ∧ (d 5 = true → d 3 = true ∧ u5 = u3)
theorem OB.off {base : Nat} {w w' : World} {g n : Nat} {f : Nat → Bool} {row : Option Nat} (h : OB base w g n f) (hg : w.grownBy w' row) (hr : row ≠ some g) : OB base w' g n f :=
  World.ownsRow.kept h hg (.inr (by simp [Value.ownBlock]; exact fun e => hr e.symm))
structure Nm (s p m : Int) (V : Value) (N g1 g2 : Nat) (f1 f2 : Nat → Bool) (w W : World) (L : Value) (zs : Tri) : Prop where
  box : Blk W w.heap.size (F4 s p m V) 26
  r1 : OB (w.heap.size + 1) W g1 N f1
  r2 : OB (w.heap.size + 1) W g2 N f2
  own : Ot 35 (w.heap.size + 1) W L zs
  off : ∀ k, L.ownBlock = some k → k ≠ g1 ∧ k ≠ g2
  ne : g1 ≠ g2
  bel : Below w.heap.size w W
section
variable {s p m : Int} {V : Value} {N g1 g2 : Nat} {f1 f2 : Nat → Bool} {w W W' : World} {L L' : Value} {zs zs' : Tri}
theorem Nm.below (h : Nm s p m V N g1 g2 f1 f2 w W L zs) (hb : Below W.heap.size W W') : Nm s p m V N g1 g2 f1 f2 w W' L zs :=
  have hg : W.grownBy W' none := ⟨hb.os, hb.tape, hb.output, hb.size, fun k hk _ => hb.block k hk⟩
  ⟨h.box.below hb h.box.lt, h.r1.off hg (by simp), h.r2.off hg (by simp), h.own.below hb, h.off, h.ne, h.bel.trans (hb.mono h.bel.size)⟩
theorem Nm.put (h : Nm s p m V N g1 g2 f1 f2 w W L zs) (hg : W.grownBy W' L.ownBlock) (hO : Ot 35 (w.heap.size + 1) W' L' zs') (hL : L'.ownBlock = L.ownBlock ∨ L'.ownBlock = some W.heap.size) : Nm s p m V N g1 g2 f1 f2 w W' L' zs' := by
  have hb : ∀ k, L.ownBlock = some k → w.heap.size + 1 ≤ k := fun k e => (World.ownsRow.lt h.own k e).1
  refine ⟨(hg.block _ h.box.lt (fun e => ?_)).trans h.box, h.r1.off hg (fun e => (h.off _ e).1 rfl), h.r2.off hg (fun e => (h.off _ e).2 rfl), hO, fun k e => ?_, h.ne, h.bel.trans (grown_below hg h.bel.size (fun k e => by have := hb k e; omega))⟩
  · have := hb _ e.symm; omega
  · rcases hL with hL | hL
    · exact h.off k (by rw [← hL]; exact e)
    · rw [hL] at e; cases e
      exact ⟨Nat.ne_of_gt (World.ownsRow.lt h.r1 g1 rfl).2, Nat.ne_of_gt (World.ownsRow.lt h.r2 g2 rfl).2⟩
theorem Nm.cell1 (h : Nm s p m V N g1 g2 f1 f2 w W L zs) {i : Nat} (hi : i < N) : W.cell? ⟨g1, i, none⟩ = some (.bool (f1 i)) := (World.ownsRow.cellAt h.r1 i (by omega)).trans (bl_at f1 N i hi)
theorem Nm.cell2 (h : Nm s p m V N g1 g2 f1 f2 w W L zs) {i : Nat} (hi : i < N) : W.cell? ⟨g2, i, none⟩ = some (.bool (f2 i)) := (World.ownsRow.cellAt h.r2 i (by omega)).trans (bl_at f2 N i hi)
theorem Nm.set1 (h : Nm s p m V N g1 g2 f1 f2 w W L zs) {i : Nat} (hi : i < N) {f' : Nat → Bool} (hf : ∀ k, f' k = if k = i then true else f1 k) : Nm s p m V N g1 g2 f' f2 w (W.setCell ⟨g1, i, none⟩ (.bool true)) L zs := by
  have hg := grown_set W g1 i (.bool true)
  have hl := World.ownsRow.lt h.r1 g1 rfl
  refine ⟨h.box.other _ _ (by dsimp only; omega), ?_, h.r2.off hg (by simp; exact h.ne), World.ownsRow.kept h.own hg (.inr (fun e => (h.off _ e).1 rfl)), h.off, h.ne, h.bel.setCell (by dsimp only; omega) _⟩
  have := (World.ownsRow.stored h.r1 i (.bool true)).1
  rw [bl_set f1 f' N i true hi hf] at this
  exact this
theorem Nm.set2 (h : Nm s p m V N g1 g2 f1 f2 w W L zs) {i : Nat} (hi : i < N) {f' : Nat → Bool} (hf : ∀ k, f' k = if k = i then true else f2 k) : Nm s p m V N g1 g2 f1 f' w (W.setCell ⟨g2, i, none⟩ (.bool true)) L zs := by
  have hg := grown_set W g2 i (.bool true)
  have hl := World.ownsRow.lt h.r2 g2 rfl
  refine ⟨h.box.other _ _ (by dsimp only; omega), h.r1.off hg (by simp; exact fun e => h.ne e.symm), ?_, World.ownsRow.kept h.own hg (.inr (fun e => (h.off _ e).2 rfl)), h.off, h.ne, h.bel.setCell (by dsimp only; omega) _⟩
  have := (World.ownsRow.stored h.r2 i (.bool true)).1
  rw [bl_set f2 f' N i true hi hf] at this
  exact this
end
set_option maxHeartbeats 6400000 in
theorem needsM_c (s p m : Int) (v : Value) (ls : Tri) (w : World) (h : Rt w v ls) (hn : ls.length ≤ 4194304) :
   Calls Tryd.prog 19 #[.agg (F4 s p m v)] w (NeedR s p m ls w) := by
  obtain ⟨W1, hW1⟩ : ∃ W1, (w.alloc (Obj.cells (F4 s p m v) 26)).alloc (Obj.cells #[] 35) = W1 := ⟨_, rfl⟩
  have k0 : Blk W1 w.heap.size (F4 s p m v) 26 := hW1 ▸ (Blk.new _ _ _).alloc _
  have s1 : W1.heap.size = w.heap.size + 2 := by rw [← hW1]; simp
  have b0 : Below w.heap.size w W1 := hW1 ▸ ((Below.refl _ _).alloc (Nat.le_refl _) _).alloc (by simp) _
  have o0 : Ot 35 (w.heap.size + 1) W1 (.slice (some ⟨w.heap.size + 1, 0, none⟩) 0 0) [] := by
    have := World.ownsRow_lit (e := 35) (size := 3) (base := w.heap.size + 1) (w.alloc (Obj.cells (F4 s p m v) 26)) #[] 0 (by simp) (by simp) (by simp)
    have e : (w.alloc (Obj.cells (F4 s p m v) 26)).heap.size = w.heap.size + 1 := by simp
    rw [hW1, e] at this
    exact this
  have HC : Hid (Calls Tryd.prog 13 #[.agg (F4 s p m v)] W1 fun e w' => ∃ r, e = .returned (.bool r) ∧ (r = true ↔ FOk s p m ls) ∧ Below W1.heap.size W1 w') := ok_c s p m v ls _ (h.below b0)
  have HK : Hid (Blk W1 w.heap.size (F4 s p m v) 26 ∧ Below w.heap.size w W1 ∧ Ot 35 (w.heap.size + 1) W1 (.slice (some ⟨w.heap.size + 1, 0, none⟩) 0 0) []) := ⟨k0, b0, o0⟩
  have HRT : Hid (Rt w v ls) := h
  obtain ⟨a, cap, rfl, h1, h2, h3⟩ := h
  unfold maxLen at h2
  have HW1 : Hid ((w.alloc (Obj.cells (F4 s p m (.slice a ls.length cap)) 26)).alloc (Obj.cells #[] 35) = W1) := hW1
  have HS1 : Hid (W1.heap.size = w.heap.size + 2) := s1
  clear k0 b0 o0 hW1 s1
  go_enter Tryd.func19, Tryd.ntmps19
  go_wp2_with (fail)
  rw [HW1.out]
  refine HC.out.mono ?_
  rintro e w2 ⟨r, rfl, hr, b2⟩
  have k2 := HK.out.1.below b2 HK.out.1.lt
  have HB2 : Hid (Blk w2 w.heap.size (F4 s p m (.slice a ls.length cap)) 26 ∧ Below w.heap.size w w2 ∧ Ot 35 (w.heap.size + 1) w2 (.slice (some ⟨w.heap.size + 1, 0, none⟩) 0 0) []) := ⟨k2, HK.out.2.1.trans (b2.mono HK.out.2.1.size), HK.out.2.2.below b2⟩
  have hs2 : w.heap.size + 2 ≤ w2.heap.size := by have := b2.size; rw [HS1.out] at this; exact this
  clear HC HK b2 HW1 HS1
  cases r with
  | false =>
    have HS : Hid (NeedsS s p m ls []) := .inl ⟨fun h => (by have := hr.2 h; cases this), rfl⟩
    clear k2 hr h3
    go_wp2
    go_ret
    exact ⟨_, _, rfl, HS.out, HB2.out.2.2.mono (by omega), HB2.out.2.1⟩
  | true =>
  have hok := hr.1 rfl
  have HOK : Hid (FOk s p m ls) := hok
  obtain ⟨hs, hp, hm, -⟩ := hok
  have hsd := sides hs hp
  obtain ⟨N, hN⟩ : ∃ N : Nat, s * p = (N : Int) := ⟨(s * p).toNat, by omega⟩
  obtain ⟨M, hM⟩ : ∃ M : Nat, m = (M : Int) := ⟨m.toNat, by omega⟩
  subst hM
  have HFIN : Hid (∀ zs, zs = needL p M ls N N → NeedsS s p M ls zs) := fun zs e => .inr ⟨HOK.out, by rw [e, hN]; rfl⟩
  have hN24 : N ≤ 24 := by omega
  have hM12 : M ≤ 12 := by omega
  have hM1 : 1 ≤ M := by omega
  obtain ⟨hp1, hp4⟩ := hp
  have hp0 : p ≠ 0 := by omega
  have HSW : Hid (∀ x : Nat, x < N → ∃ k : Nat, (x : Int) / p = (k : Int) ∧ k < 6) := fun x hx => swof hs ⟨hp1, hp4⟩ ⟨by omega, by omega⟩
  have HIR : Hid (InR ls) := HOK.out.inr
  have HEND : Hid (∀ i (h : i < ls.length), ∃ x y : Nat, ls[i].1 = x ∧ ls[i].2.1 = y ∧ x < N ∧ y < N) := fun i h => by
    have := (HOK.out.2.2.2 i h h).1
    obtain ⟨⟨a1, a2⟩, ⟨a3, a4⟩, -⟩ := this
    exact ⟨ls[i].1.toNat, ls[i].2.1.toNat, by omega, by omega, by omega, by omega⟩
  have c0 := k2.cell 0
  have c1 := k2.cell 1
  simp at c0 c1
  clear hr k2 hs hm hsd HOK
  go_wp2
  have HB2' : Hid (w.heap.size + 1 ≤ w2.heap.size) := by show _ ≤ _; omega
  refine region_invB (by kernel_rfl) (by kernel_rfl) (JM N (w.heap.size + 1) w2.drew (fun u0 u1 u2 u3 u4 u5 => ⟨#[.agg (F4 s p M (.slice a ls.length cap)), .pointer (some ⟨w.heap.size, 0, none⟩), .slice none 0 0, .slice (some ⟨w.heap.size + 1, 0, none⟩) 0 0, .int .i64 N, u4, u5, undef, undef, undef, undef, undef, .slice (some ⟨w.heap.size + 1, 0, none⟩) 0 0, .agg #[.int .i64 s, .int .i64 p, .int .i64 M, .slice a ls.length cap], .bool true, .bool false, undef, .pointer (some ⟨w.heap.size, 0, none⟩), .int .i64 s, .pointer (some ⟨w.heap.size, 1, none⟩), .int .i64 p, .int .i64 N, u0, u1, u2, u3, undef, undef, undef, undef, undef, undef, undef, undef, undef, undef, undef, undef, undef, undef, undef, undef, undef, undef, undef, undef, undef, undef, undef, undef, undef, undef, undef, undef, undef, undef, undef, undef, undef, undef, undef, undef, undef, undef, undef, undef, undef, undef, undef, undef, undef, undef, undef, undef, undef, undef, undef, undef, undef, undef, undef, undef, undef, undef, undef, undef, undef, undef, undef, undef, undef, undef, undef, undef, undef, undef, undef, undef, undef, undef, undef, undef, undef, undef, undef, undef], []⟩)) ⟨_, _, _, _, _, _, rfl, grown_refl _ _, by simp, by simp, by simp, by simp, by simp, by simp⟩ ⟨?_, ?_, ?_, ?_, ?_, ?_, trivial⟩ ?_
  · rintro d A W ⟨x0, x1, x2, x3, x4, x5, rfl, I, e0, e2, e1, e3, e4, e5⟩ hn hd
    exact wp_val _ rfl ⟨_, x1, x2, x3, x4, x5, rfl, I, fun _ => rfl, e2, e1, e3, e4, e5⟩
  · rintro d A W ⟨x0, x1, x2, x3, x4, x5, rfl, I, e0, e2, e1, e3, e4, e5⟩ hn hd
    obtain rfl := e0 (hd ⟨0, .data⟩ (by simp) rfl)
    refine wp_makeB _ _ rfl N rfl rfl (by omega) (w.heap.size + 1) (Nat.le_trans HB2'.out I.size) fun w' ho hg => ?_
    refine ⟨_, _, x2, x3, x4, x5, rfl, grown_trans I hg, fun _ => rfl, e2, fun _ => ⟨_, rfl, I.size, (World.ownsRow.lt ho _ rfl).2, ho, fun h3 g' e => ?_⟩, fun h3 => ?_, fun h4 => ?_, e5⟩
    · obtain ⟨g, r1, r2, r3, r4⟩ := e3 h3
      rw [r1] at e; cases e
      exact Nat.ne_of_gt r3
    · obtain ⟨g, r1, r2, r3, r4⟩ := e3 h3
      exact ⟨g, r1, r2, Nat.lt_of_lt_of_le r3 hg.size, r4.off hg (by simp)⟩
    · have := (e4 h4).1
      rw [hn] at this; cases this
  · rintro d A W ⟨x0, x1, x2, x3, x4, x5, rfl, I, e0, e2, e1, e3, e4, e5⟩ hn hd
    exact wp_val _ rfl ⟨x0, x1, _, x3, x4, x5, rfl, I, e0, fun _ => rfl, e1, e3, e4, e5⟩
  · rintro d A W ⟨x0, x1, x2, x3, x4, x5, rfl, I, e0, e2, e1, e3, e4, e5⟩ hn hd
    obtain rfl := e2 (hd ⟨2, .data⟩ (by simp) rfl)
    refine wp_makeB _ _ rfl N rfl rfl (by omega) (w.heap.size + 1) (Nat.le_trans HB2'.out I.size) fun w' ho hg => ?_
    refine ⟨x0, x1, _, _, x4, x5, rfl, grown_trans I hg, e0, fun _ => rfl, fun h1 => ?_, fun _ => ⟨_, rfl, I.size, (World.ownsRow.lt ho _ rfl).2, ho⟩, e4, fun h5 => ?_⟩
    · obtain ⟨g, r1, r2, r3, r4, -⟩ := e1 h1
      exact ⟨g, r1, r2, Nat.lt_of_lt_of_le r3 hg.size, r4.off hg (by simp), fun _ g' e => by cases e; exact Nat.ne_of_lt r3⟩
    · have := (e5 h5).1
      rw [hn] at this; cases this
  · rintro d A W ⟨x0, x1, x2, x3, x4, x5, rfl, I, e0, e2, e1, e3, e4, e5⟩ hn hd
    exact wp_val _ rfl ⟨x0, x1, x2, x3, _, x5, rfl, I, e0, e2, e1, e3, fun _ => ⟨hd ⟨1, .data⟩ (by simp) rfl, rfl⟩, e5⟩
  · rintro d A W ⟨x0, x1, x2, x3, x4, x5, rfl, I, e0, e2, e1, e3, e4, e5⟩ hn hd
    exact wp_val _ rfl ⟨x0, x1, x2, x3, x4, _, rfl, I, e0, e2, e1, e3, e4, fun _ => ⟨hd ⟨3, .data⟩ (by simp) rfl, rfl⟩⟩
  · rintro d A W ⟨x0, x1, x2, x3, x4, x5, rfl, I, e0, e2, e1, e3, e4, e5⟩ hd
    obtain rfl := e0 (hd 0 (by decide))
    obtain rfl := e2 (hd 2 (by decide))
    obtain ⟨-, rfl⟩ := e4 (hd 4 (by decide))
    obtain ⟨-, rfl⟩ := e5 (hd 5 (by decide))
    obtain ⟨g1, rfl, l1, m1, o1, hne⟩ := e1 (hd 1 (by decide))
    obtain ⟨g2, rfl, l2, m2, o2⟩ := e3 (hd 3 (by decide))
    have hne := hne (hd 3 (by decide)) g2 rfl
    have I' : w2.grownBy W none := ⟨I.os, I.tape, I.output, I.size, I.block⟩
    have bI : Below w2.heap.size w2 W := grown_below I' (Nat.le_refl _) (by simp)
    have D0 : Hid (Nm s p M (.slice a ls.length cap) N g1 g2 (fun i => (ls.take 0).any fun q => q.1 == (i : Int)) (fun i => (ls.take 0).any fun q => q.2.1 == (i : Int)) w W (.slice (some ⟨w.heap.size + 1, 0, none⟩) 0 0) []) := by
      refine ⟨HB2.out.1.below bI HB2.out.1.lt, o1, o2, HB2.out.2.2.below bI, fun k e => ?_, hne, HB2.out.2.1.trans (bI.mono HB2.out.2.1.size)⟩
      have : w.heap.size + 1 = k := by simpa [Value.ownBlock] using e
      have q1 : w2.heap.size ≤ g1 := l1
      have q2 : w2.heap.size ≤ g2 := l2
      omega
    clear hd e0 e2 e4 e5 e1 e3 I I' bI o1 o2 l1 l2 m1 m2 hne HB2 HB2' c0 c1
    dsimp only
    go_wp2
    go_loopw [7] (fun i wr => ∃ j : Nat, j ≤ ls.length ∧ i = .int .i64 j ∧ Hid (Nm s p M (.slice a ls.length cap) N g1 g2 (fun i => (ls.take j).any fun q => q.1 == (i : Int)) (fun i => (ls.take j).any fun q => q.2.1 == (i : Int)) w wr (.slice (some ⟨w.heap.size + 1, 0, none⟩) 0 0) [])) (fun i _ => ls.length - (intOf i).toNat)
    case atStart => exact ⟨0, Nat.zero_le _, rfl, D0.out⟩
    case round =>
      obtain ⟨j, hj, rfl, hD⟩ := hrel
      clear D0
      have d3 := hD.out.box.cell 3
      simp at d3
      by_cases hlt : j < ls.length
      case pos =>
        rcases h3 with h3 | ⟨b, off, rfl, h4⟩
        · subst h3; simp at hlt
        have hc := h4 j hlt
        have hcb : b < w.heap.size := block_lt_of_cell hc.1
        obtain ⟨x, y, ex, ey, hx, hy⟩ := HEND.out j hlt
        rw [ex, ey] at hc
        have q0 := (hD.out.bel.cell (p := ⟨b, off + j * 3, none⟩) hcb).trans hc.1
        have q1 := (hD.out.bel.cell (p := ⟨b, off + j * 3 + 1, none⟩) hcb).trans hc.2.1
        have a1 := hD.out.cell1 hx
        have a2 := hD.out.cell2 hy
        have b1 := World.ownsRow.frozenAt hD.out.r1 x
        have b2 := World.ownsRow.frozenAt hD.out.r2 y
        have htk : ls.take (j + 1) = ls.take j ++ [ls[j]] := List.take_succ_eq_append_getElem hlt
        have D1 : Hid (Nm s p M (.slice (some ⟨b, off, none⟩) ls.length cap) N g1 g2 (fun i => (ls.take (j + 1)).any fun q => q.1 == (i : Int)) (fun i => (ls.take (j + 1)).any fun q => q.2.1 == (i : Int)) w ((wr.setCell ⟨g1, x, none⟩ (.bool true)).setCell ⟨g2, y, none⟩ (.bool true)) (.slice (some ⟨w.heap.size + 1, 0, none⟩) 0 0) []) := by
          refine (hD.out.set1 hx (fun k => ?_)).set2 hy (fun k => ?_)
          · rw [htk, List.any_append]
            by_cases hk : k = x
            · subst hk; simp [ex]
            · rw [if_neg hk]; simp [ex]; omega
          · rw [htk, List.any_append]
            by_cases hk : k = y
            · subst hk; simp [ey]
            · rw [if_neg hk]; simp [ey]; omega
        have hne := hD.out.ne
        have n1 : ¬ g1 = w.heap.size := by have := (World.ownsRow.lt hD.out.r1 g1 rfl).1; omega
        have n2 : ¬ g1 = b := by have := (World.ownsRow.lt hD.out.r1 g1 rfl).1; omega
        have n3 : ¬ w.heap.size = g1 := fun e => n1 e.symm
        have n4 : ¬ b = g1 := fun e => n2 e.symm
        have n5 : ¬ g2 = g1 := fun e => hne e.symm
        have hyz : y < N := hy
        have hxz : x < N := hx
        clear hc h4 ex ey htk hD
        go_wp2
        go_roundw
        case rel => exact ⟨j + 1, by omega, by go_num, D1.out⟩
        case measure => simp [intOf]; omega
      case neg =>
      obtain rfl : j = ls.length := by omega
      obtain ⟨F1, hF1⟩ : ∃ F : Nat → Bool, F = fun i : Nat => ls.any fun q => q.1 == (i : Int) := ⟨_, rfl⟩
      obtain ⟨F2, hF2⟩ : ∃ F : Nat → Bool, F = fun i : Nat => ls.any fun q => q.2.1 == (i : Int) := ⟨_, rfl⟩
      have D2 : Hid (Nm s p M (.slice a ls.length cap) N g1 g2 F1 F2 w wr (.slice (some ⟨w.heap.size + 1, 0, none⟩) 0 0) []) := by have := hD.out; rw [List.take_length] at this; rw [hF1, hF2]; exact this
      have HNB : Hid (∀ x y, needB p M ls x y = (!F1 x && (!F2 y && (List.range M).all (midB p ls x y)))) := fun x y => by rw [hF1, hF2]; rfl
      clear hD hF1 hF2 h3 hj
      go_wp2
      clear d3
      go_loopw [3, 8] (fun L i wr => ∃ j : Nat, j ≤ N ∧ i = .int .i64 j ∧ Hid (Nm s p M (.slice a ls.length cap) N g1 g2 F1 F2 w wr L (needL p M ls N j))) (fun _ i _ => N - (intOf i).toNat)
      case atStart => exact ⟨0, Nat.zero_le _, rfl, D2.out⟩
      case round =>
        obtain ⟨j, hj, rfl, hD⟩ := hrel
        clear D2
        by_cases hlt : j < N
        case neg =>
          obtain rfl : j = N := by omega
          go_wp2
          go_ret
          exact ⟨_, _, rfl, HFIN.out _ rfl, hD.out.own.mono (by omega), hD.out.bel⟩
        case pos =>
        obtain ⟨kx, hkx, hkx6⟩ := HSW.out j hlt
        go_wp2
        go_loopw [3, 9] (fun L i wr => ∃ y : Nat, y ≤ N ∧ i = .int .i64 y ∧ Hid (Nm s p M (.slice a ls.length cap) N g1 g2 F1 F2 w wr L (needL p M ls N j ++ needRow p M ls j y))) (fun _ i _ => N - (intOf i).toNat)
        case atStart => exact ⟨0, Nat.zero_le _, rfl, (by have := hD.out; simpa [needRow] using this : Nm s p M (.slice a ls.length cap) N g1 g2 F1 F2 w wr u3 (needL p M ls N j ++ needRow p M ls j 0))⟩
        case round =>
          obtain ⟨y, hy, rfl, hE⟩ := hrel
          clear hD
          by_cases hly : y < N
          case neg =>
            obtain rfl : y = N := by omega
            go_wp2
            go_roundw
            case rel => exact ⟨j + 1, by omega, by go_num, (by rw [needL_succ]; exact hE.out)⟩
            case measure => simp [intOf]; omega
          case pos =>
          obtain ⟨ky, hky, hky6⟩ := HSW.out y hly
          obtain ⟨t1, ht1⟩ : ∃ t, F1 j = t := ⟨_, rfl⟩
          obtain ⟨t2, ht2⟩ : ∃ t, F2 y = t := ⟨_, rfl⟩
          have a1 := hE.out.cell1 hlt
          have a2 := hE.out.cell2 hly
          rw [ht1] at a1
          rw [ht2] at a2
          have HNB1 : Hid (needB p M ls j y = (!(t1 || t2) && (List.range M).all (midB p ls j y))) := by
            show needB p M ls j y = _
            rw [HNB.out, ht1, ht2]; cases t1 <;> cases t2 <;> rfl
          obtain ⟨L, rfl⟩ : ∃ L, L = u3 := ⟨_, rfl⟩
          clear ht1 ht2
          cases t1 with
          | true =>
            have e2 := hE.out.box.cell 2
            simp at e2
            have D3 : Hid (Nm s p M (.slice a ls.length cap) N g1 g2 F1 F2 w wr L (needL p M ls N j ++ needRow p M ls j (y + 1))) := by
              show Nm _ _ _ _ _ _ _ _ _ _ _ _ _
              have e : needRow p M ls j (y + 1) = needRow p M ls j y := by rw [needRow_succ, HNB1.out]; rfl
              rw [e]; exact hE.out
            have hM0 : (0 : Int) < M := by omega
            go_wp2
            refine wp_loop_rounds 1 ?_
            rw [rounds_succ]
            go_wp2
            go_roundw
            case rel => exact ⟨y + 1, by omega, by go_num, D3.out⟩
            case measure => simp [intOf]; omega
          | false =>
          cases t2 with
          | true =>
            have e2 := hE.out.box.cell 2
            simp at e2
            have D3 : Hid (Nm s p M (.slice a ls.length cap) N g1 g2 F1 F2 w wr L (needL p M ls N j ++ needRow p M ls j (y + 1))) := by
              show Nm _ _ _ _ _ _ _ _ _ _ _ _ _
              have e : needRow p M ls j (y + 1) = needRow p M ls j y := by rw [needRow_succ, HNB1.out]; rfl
              rw [e]; exact hE.out
            have hM0 : (0 : Int) < M := by omega
            go_wp2
            refine wp_loop_rounds 1 ?_
            rw [rounds_succ]
            go_wp2
            go_roundw
            case rel => exact ⟨y + 1, by omega, by go_num, D3.out⟩
            case measure => simp [intOf]; omega
          | false =>
          have e2 := hE.out.box.cell 2
          simp at e2
          go_wp2
          clear e2 a1 a2
          go_loopw [10, 11] (fun fr mm wr => ∃ k : Nat, k ≤ M ∧ mm = .int .i64 k ∧ fr = .bool (!((List.range k).all (midB p ls j y))) ∧ Hid (Nm s p M (.slice a ls.length cap) N g1 g2 F1 F2 w wr L (needL p M ls N j ++ needRow p M ls j y))) (fun _ mm _ => M - (intOf mm).toNat)
          case atStart => exact ⟨0, Nat.zero_le _, rfl, rfl, hE.out⟩
          case round =>
            obtain ⟨k, hk, rfl, rfl, hG⟩ := hrel
            clear hE
            obtain ⟨al, hal⟩ : ∃ al, (List.range k).all (midB p ls j y) = al := ⟨_, rfl⟩
            rw [hal]
            have e0 := hG.out.box.cell 0
            have e1 := hG.out.box.cell 1
            have e2 := hG.out.box.cell 2
            have e3 := hG.out.box.cell 3
            simp at e0 e1 e2 e3
            by_cases hkm : k < M
            case neg =>
              obtain rfl : k = M := by omega
              have HN : Hid (needB p k ls j y = al) := by
                show needB p k ls j y = al
                rw [HNB1.out, hal]; rfl
              clear hal
              cases al with
              | true =>
                have D8 := hG.out
                have hlen : (needL p k ls N j ++ needRow p k ls j y).length ≤ 1000 := by
                  have h1 := needL_len p k ls N j
                  have h2 := needRow_len p k ls j y
                  have h3 : j * N ≤ 24 * 24 := Nat.mul_le_mul (by omega) (by omega)
                  rw [List.length_append]; omega
                have D9 : Hid (Nm s p k (.slice a ls.length cap) N g1 g2 F1 F2 w (wr.alloc (Obj.cells (P3 j y (-1)) 35)) L (needL p k ls N j ++ needRow p k ls j y)) := D8.below ((Below.refl _ _).alloc (Nat.le_refl _) _)
                have HO9 := oneTri D8.own j y (-1)
                have HO : Hid (Ot 35 (w.heap.size + 1) (wr.alloc (Obj.cells (P3 j y (-1)) 35)) L (needL p k ls N j ++ needRow p k ls j y)) := HO9.1
                have HR : Hid (Rt (wr.alloc (Obj.cells (P3 j y (-1)) 35)) (.slice (some ⟨wr.heap.size, 0, none⟩) 1 1) [((j : Int), (y : Int), -1)]) := HO9.2
                have HBS : Hid (w.heap.size + 1 ≤ (wr.alloc (Obj.cells (P3 j y (-1)) 35)).heap.size) := by
                  show _ ≤ _
                  have := D8.box.lt; simp; omega
                have HLL : Hid ((needL p k ls N j ++ needRow p k ls j y).length ≤ 1000) := hlen
                have HYES : Hid (needRow p k ls j (y + 1) = needRow p k ls j y ++ [((j : Int), (y : Int), -1)]) := by
                  show needRow p k ls j (y + 1) = _
                  rw [needRow_succ, HN.out]; rfl
                clear D8 HO9 hlen hG HN
                go_wp2_with (at_builtin; refine appTri rfl _ _ rfl (w.heap.size + 1) _ _ rfl HO.out _ _ rfl HR.out (by have := HLL.out; simp only [List.length_cons, List.length_nil]; omega) HBS.out ?_)
                intro v' w9 ho9 hg9 hb9
                have D10 : Hid (Nm s p k (.slice a ls.length cap) N g1 g2 F1 F2 w w9 v' (needL p k ls N j ++ needRow p k ls j (y + 1))) := by
                  show Nm _ _ _ _ _ _ _ _ _ _ _ _ _
                  rw [HYES.out]; exact D9.out.put hg9 ho9 (by simpa using hb9)
                clear ho9 hg9 hb9 D9 HO HR HBS HLL HYES
                go_wp2
                go_roundw
                case rel => exact ⟨y + 1, by omega, by go_num, D10.out⟩
                case measure => simp [intOf]; omega
              | false =>
                have D3 : Hid (Nm s p k (.slice a ls.length cap) N g1 g2 F1 F2 w wr L (needL p k ls N j ++ needRow p k ls j (y + 1))) := by
                  show Nm _ _ _ _ _ _ _ _ _ _ _ _ _
                  have e : needRow p k ls j (y + 1) = needRow p k ls j y := by rw [needRow_succ, HN.out]; rfl
                  rw [e]; exact hG.out
                go_wp2
                go_roundw
                case rel => exact ⟨y + 1, by omega, by go_num, D3.out⟩
                case measure => simp [intOf]; omega
            case pos =>
            cases al with
            | false =>
                have HN : Hid (needB p M ls j y = false) := by
                  show needB p M ls j y = false
                  rw [HNB1.out]
                  have : (List.range M).all (midB p ls j y) = false := by
                    rw [List.all_eq_false] at hal ⊢
                    obtain ⟨t, ht, h⟩ := hal
                    exact ⟨t, List.mem_range.2 (by have := List.mem_range.1 ht; omega), h⟩
                  rw [this]; rfl
                clear hal
                have D3 : Hid (Nm s p M (.slice a ls.length cap) N g1 g2 F1 F2 w wr L (needL p M ls N j ++ needRow p M ls j (y + 1))) := by
                  show Nm _ _ _ _ _ _ _ _ _ _ _ _ _
                  have e : needRow p M ls j (y + 1) = needRow p M ls j y := by rw [needRow_succ, HN.out]; rfl
                  rw [e]; exact hG.out
                go_wp2
                go_roundw
                case rel => exact ⟨y + 1, by omega, by go_num, D3.out⟩
                case measure => simp [intOf]; omega
            | true =>
              have hmb : midB p ls j y k = (ls.any (inQ p kx k) || ls.any (outQ p ky k)) := by rw [midB, hkx, hky]
              have hi1 := ixV_neg (inQ p kx k) ls
              have hi2 := ixV_neg (outQ p ky k) ls
              have HC46 : ∀ W : Ov wr, Calls Tryd.prog 46 #[.agg (F4 s p M (.slice a ls.length cap)), .int .i64 kx, .int .i64 k] W.wd fun e w'' => e = .returned (.int .i64 (ixV (inQ p kx k) ls)) ∧ ∃ W' : Ov wr, w'' = W'.wd := fun W =>
                ov_call (l3In_v s p M kx k _ ls W.wd (HRT.out.below (hG.out.bel.trans (W.ok.mono hG.out.bel.size))) HIR.out hp1 hp4)
              have HC47 : ∀ W : Ov wr, Calls Tryd.prog 47 #[.agg (F4 s p M (.slice a ls.length cap)), .int .i64 ky, .int .i64 k] W.wd fun e w'' => e = .returned (.int .i64 (ixV (outQ p ky k) ls)) ∧ ∃ W' : Ov wr, w'' = W'.wd := fun W =>
                ov_call (l3Out_v s p M ky k _ ls W.wd (HRT.out.below (hG.out.bel.trans (W.ok.mono hG.out.bel.size))) HIR.out hp1 hp4)
              obtain ⟨i1, hv1⟩ : ∃ i, ixV (inQ p kx k) ls = i := ⟨_, rfl⟩
              obtain ⟨i2, hv2⟩ : ∃ i, ixV (outQ p ky k) ls = i := ⟨_, rfl⟩
              obtain ⟨t1, ht1⟩ : ∃ t, ls.any (inQ p kx k) = t := ⟨_, rfl⟩
              obtain ⟨t2, ht2⟩ : ∃ t, ls.any (outQ p ky k) = t := ⟨_, rfl⟩
              rw [hv1] at HC46 hi1
              rw [hv2] at HC47 hi2
              rw [ht1] at hi1 hmb
              rw [ht2] at hi2 hmb
              have H46 : Hid (∀ W : Ov wr, Calls Tryd.prog 46 #[.agg (F4 s p M (.slice a ls.length cap)), .int .i64 kx, .int .i64 k] W.wd fun e w'' => e = .returned (.int .i64 i1) ∧ ∃ W' : Ov wr, w'' = W'.wd) := HC46
              have H47 : Hid (∀ W : Ov wr, Calls Tryd.prog 47 #[.agg (F4 s p M (.slice a ls.length cap)), .int .i64 ky, .int .i64 k] W.wd fun e w'' => e = .returned (.int .i64 i2) ∧ ∃ W' : Ov wr, w'' = W'.wd) := HC47
              have HALL : Hid ((List.range (k + 1)).all (midB p ls j y) = (t1 || t2)) := by
                show (List.range (k + 1)).all (midB p ls j y) = (t1 || t2)
                rw [List.range_succ, List.all_append, hal, ← hmb]; simp
              have HG2 : Hid (∀ W : Ov wr, Nm s p M (.slice a ls.length cap) N g1 g2 F1 F2 w W.wd L (needL p M ls N j ++ needRow p M ls j y)) := fun W => hG.out.below W.ok
              have y0 : ∀ W : Ov wr, W.wd.cell? ⟨w.heap.size, 0, none⟩ = some (.int .i64 s) := ov_cell e0
              have y1 : ∀ W : Ov wr, W.wd.cell? ⟨w.heap.size, 1, none⟩ = some (.int .i64 p) := ov_cell e1
              have y2 : ∀ W : Ov wr, W.wd.cell? ⟨w.heap.size, 2, none⟩ = some (.int .i64 M) := ov_cell e2
              have y3 : ∀ W : Ov wr, W.wd.cell? ⟨w.heap.size, 3, none⟩ = some (.slice a ls.length cap) := ov_cell e3
              have ne : Nonempty (Ov wr) := ⟨⟨_, Below.refl _ _⟩⟩
              clear HC46 HC47 hv1 hv2 ht1 ht2 hmb hal hG
              cases t1 with
              | true =>
                have hneg : decide (i1 < 0) = false := decide_eq_false (fun h => by have := hi1.1 h; cases this)
                clear hi1 hi2
                go_wp2
                refine region_over (by kernel_rfl) (by kernel_rfl) ?_
                repeat (go_big_quiet_step (first | (go_at_call 46; exact H46.out _) | (go_at_call 47; exact H47.out _)))
                refine wpQuiet_nil ?_
                rintro _ ⟨W, rfl⟩
                go_wp2
                go_roundw
                case rel => exact ⟨k + 1, by omega, by go_num, (by rw [HALL.out]; rfl), HG2.out W⟩
                case measure => simp [intOf]; omega
              | false =>
                have hneg : i1 < 0 := hi1.2 rfl
                cases t2 with
                | true =>
                  have hneg2 : decide (i2 < 0) = false := decide_eq_false (fun h => by have := hi2.1 h; cases this)
                  clear hi1 hi2
                  go_wp2
                  refine region_over (by kernel_rfl) (by kernel_rfl) ?_
                  repeat (go_big_quiet_step (first | (go_at_call 46; exact H46.out _) | (go_at_call 47; exact H47.out _)))
                  refine wpQuiet_nil ?_
                  rintro _ ⟨W, rfl⟩
                  go_wp2
                  go_roundw
                  case rel => exact ⟨k + 1, by omega, by go_num, (by rw [HALL.out]; rfl), HG2.out W⟩
                  case measure => simp [intOf]; omega
                | false =>
                  have hneg2 : i2 < 0 := hi2.2 rfl
                  clear hi1 hi2
                  go_wp2
                  refine region_over (by kernel_rfl) (by kernel_rfl) ?_
                  repeat (go_big_quiet_step (first | (go_at_call 46; exact H46.out _) | (go_at_call 47; exact H47.out _)))
                  refine wpQuiet_nil ?_
                  rintro _ ⟨W, rfl⟩
                  go_wp2
                  go_roundw
                  case rel => exact ⟨k + 1, by omega, by go_num, (by rw [HALL.out]; rfl), HG2.out W⟩
                  case measure => simp [intOf]; omega
end Go.Proofs.YtikhfeafbckjlaaDoor
