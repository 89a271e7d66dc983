/- A desk at work; no condition. -/
import Derived.Test.YtpmmgbinogokfaaGMath
import Derived.Test.YtpmmgbinogokfaaCpy
import Derived.ArgAppend
namespace Go.Proofs.Ytpmmgbinogokfaa
open Go.RowKit Go.ChangeShapes Go.WideShapes Go.ChangeAt
set_option linter.unusedVariables false
set_option linter.unusedSimpArgs false
set_option maxRecDepth 8000
abbrev L5 (now : Int) (va vq : Value) (g : Int) (vc : Value) : Array Value := #[.int .i64 now, va, vq, .int .i64 g, vc]
/-- a desk at work: its block, its agents and calls its own, its queue to be read -/
structure Lv (B : Nat) (W : World) (L : Nat) (now g : Int) (va vq vc : Value) (gs : List Ag) (qs : List Wt) (cs : List Int) : Prop where
  blk : Blk W L (L5 now va vq g vc) 83
  lb : B ≤ L
  ag : Og 3 agC 36 B W va gs
  qu : Rg 4 wtC W vq qs
  ca : Ow .i64 3 B W vc cs
  nva : va.ownBlock ≠ some L
  nvq : qs = [] ∨ vq.ownBlock ≠ some L
  nvc : vc.ownBlock ≠ some L
  naq : qs = [] ∨ va.ownBlock = none ∨ vq.ownBlock ≠ va.ownBlock
  nca : vc.ownBlock = none ∨ vc.ownBlock ≠ va.ownBlock
  ncq : qs = [] ∨ vc.ownBlock = none ∨ vq.ownBlock ≠ vc.ownBlock
theorem Lv.below {B : Nat} {W W' : World} {L : Nat} {now g : Int} {va vq vc : Value} {gs : List Ag} {qs : List Wt} {cs : List Int} (h : Lv B W L now g va vq vc gs qs cs) (hb : Below W.heap.size W W') : Lv B W' L now g va vq vc gs qs cs :=
  ⟨h.blk.below hb h.blk.lt, h.lb, h.ag.below hb, h.qu.below hb, h.ca.below hb, h.nva, h.nvq, h.nvc, h.naq, h.nca, h.ncq⟩
theorem Lv.drew {B : Nat} {W : World} {L : Nat} {now g : Int} {va vq vc : Value} {gs : List Ag} {qs : List Wt} {cs : List Int} (h : Lv B W L now g va vq vc gs qs cs) : Lv B W.drew L now g va vq vc gs qs cs := h.below (Below.refl _ _).drew
set_option maxHeartbeats 3200000 in
theorem openDesk_c (n g : Int) (va vq : Value) (gs : List Ag) (qs : List Wt) (w : World) (ha : Rg 3 agC w va gs) (hq : Rg 4 wtC w vq qs) (la : gs.length ≤ 1048576) :
   Calls Try.prog 47 #[.agg (D4 n va vq g)] w fun e w' => ∃ L va', e = .returned (.pointer (some ⟨L, 0, none⟩)) ∧ Lv w.heap.size w' L n g va' vq (.slice none 0 0) gs qs [] ∧ Below w.heap.size w w' := by
  have hqb := hq.blk wtC_len (by decide)
  have HQB : Hid (qs = [] ∨ ∀ k, vq.ownBlock = some k → k < w.heap.size) := hqb
  obtain ⟨W1, hW1⟩ : ∃ W1, w.alloc (Obj.cells (D4 n va vq g) 27) = W1 := ⟨_, rfl⟩
  have hb : Below w.heap.size w W1 := hW1 ▸ (Below.refl _ _).alloc (Nat.le_refl _) _
  have HB : Hid (Below w.heap.size w W1) := hb
  have k0 : Blk W1 w.heap.size (D4 n va vq g) 27 := hW1 ▸ Blk.new _ _ _
  have K0 : Hid (Blk W1 w.heap.size (D4 n va vq g) 27) := k0
  have HH : Hid (Rg 3 agC w va gs ∧ Rg 4 wtC w vq qs) := ⟨ha, hq⟩
  have HW1 : Hid (w.alloc (Obj.cells (D4 n va vq g) 27) = W1) := hW1
  obtain ⟨a0, p0, rfl, -⟩ := ha
  obtain ⟨a1, p1, rfl, -⟩ := hq
  obtain ⟨S, hS⟩ : ∃ S : World → Prop, ∀ W, S W ↔ Below W1.heap.size W1 W := ⟨_, fun _ => Iff.rfl⟩
  have z0 : ∀ W : At S, W.wd.cell? ⟨w.heap.size, 0, none⟩ = some (.int .i64 n) := fun W => (k0.below ((hS _).1 W.ok) k0.lt).cell 0
  have z1 : ∀ W : At S, W.wd.cell? ⟨w.heap.size, 1, none⟩ = some (.slice a0 gs.length p0) := fun W => (k0.below ((hS _).1 W.ok) k0.lt).cell 1
  have z2 : ∀ W : At S, W.wd.cell? ⟨w.heap.size, 2, none⟩ = some (.slice a1 qs.length p1) := fun W => (k0.below ((hS _).1 W.ok) k0.lt).cell 2
  have z3 : ∀ W : At S, W.wd.cell? ⟨w.heap.size, 3, none⟩ = some (.int .i64 g) := fun W => (k0.below ((hS _).1 W.ok) k0.lt).cell 3
  have HS : Hid (∀ W, S W ↔ Below W1.heap.size W1 W) := hS
  have ne : Nonempty (At S) := ⟨⟨W1, (hS _).2 (Below.refl _ _)⟩⟩
  clear hb k0 hW1 hS hqb
  go_enter Try.func47, Try.ntmps47
  go_wp2_with (fail)
  rw [HW1.out]
  refine region_mixA [true, true, true, true, false, true, true, true, true, false, false, false] 12 4 S (by kernel_rfl) rfl (by kernel_rfl) (fun _ _ _ _ _ h => h) ((HS.out _).2 (Below.refl _ _).drew) ?_
  simp only [selT, selF]
  repeat (go_big_quiet_step (fail))
  refine wpQuiet_nil ?_
  refine tail_step ?_
  go_wp2_with (fail)
  refine (cloneAg_c _ gs W1.drew (HH.out.1.below HB.out.drew) la).mono ?_
  rintro e w3 ⟨v', rfl, o3, b3⟩
  have B3 : Below W1.heap.size W1 w3 := (Below.refl _ _).drew.trans b3
  have HB3 : Hid (Below W1.heap.size W1 w3) := B3
  have O3 : Hid (Og 3 agC 36 W1.heap.size w3 v' gs) := o3
  obtain ⟨a3, p3, rfl⟩ := o3.form
  clear b3 B3 o3 z0 z1 z2 z3 ne
  go_wp2
  refine ⟨(HS.out _).2 HB3.out, tail_step ?_⟩
  go_wp2
  refine ⟨(HS.out _).2 HB3.out, tail_step ?_⟩
  go_wp2
  obtain ⟨W4, hW4⟩ : ∃ W4, w3.alloc (Obj.cells (L5 n (.slice a3 gs.length p3) (.slice a1 qs.length p1) g (.slice none 0 0)) 83) = W4 := ⟨_, rfl⟩
  have b4 : Below w3.heap.size w3 W4 := hW4 ▸ (Below.refl _ _).alloc (Nat.le_refl _) _
  have HB4 : Hid (Below W1.heap.size W1 W4) := belowCall HB3.out b4 HB3.out.size
  have HBF : Hid (Below w.heap.size w W4) := belowCall HB.out HB4.out HB.out.size
  have hsz : w.heap.size < W1.heap.size := K0.out.lt
  have hsz3 : W1.heap.size ≤ w3.heap.size := HB3.out.size
  have HLV : Hid (Lv w.heap.size W4 w3.heap.size n g (.slice a3 gs.length p3) (.slice a1 qs.length p1) (.slice none 0 0) gs qs []) := by
    refine ⟨hW4 ▸ Blk.new _ _ _, by omega, (O3.out.mono (by omega)).below b4, HH.out.2.below HBF.out, World.ownsRow_nil _ _ _ _, fun e => ?_, ?_, by simp [Value.ownBlock], ?_, .inl rfl, .inr (.inl rfl)⟩
    · have := (O3.out.lt _ e).2; omega
    · rcases HQB.out with h | h
      · exact .inl h
      · exact .inr fun e => by have := h _ e; omega
    · rcases HQB.out with h | h
      · exact .inl h
      · cases hx : (Value.slice a3 gs.length p3).ownBlock with
        | none => exact .inr (.inl rfl)
        | some k => exact .inr (.inr fun e => by have := h _ e; have := (O3.out.lt k hx).1; omega)
  have HW4 : Hid (w3.alloc (Obj.cells (L5 n (.slice a3 gs.length p3) (.slice a1 qs.length p1) g (.slice none 0 0)) 83) = W4) := hW4
  clear b4 hW4
  rw [HW4.out]
  refine ⟨(HS.out _).2 HB4.out, tail_step ?_⟩
  go_wp2
  refine ⟨(HS.out _).2 HB4.out, tail_end ?_⟩
  go_wp2
  go_ret
  exact ⟨_, _, rfl, HLV.out, HBF.out⟩
end Go.Proofs.Ytpmmgbinogokfaa
namespace Go.Proofs.Ytpmmgbinogokfaa
open Go.RowKit Go.ChangeShapes Go.WideShapes Go.ChangeAt
set_option linter.unusedVariables false
set_option linter.unusedSimpArgs false
set_option maxRecDepth 8000
/-- the live desk's block rewritten at one place -/
theorem Lv.fr {X : Nat → Prop} {B : Nat} {W W' : World} {L : Nat} {now g : Int} {va vq vc : Value} {gs : List Ag} {qs : List Wt} {cs : List Int} (h : Lv B W L now g va vq vc gs qs cs) (hf : W.grownBy W' (some L)) (hb : ∀ now' g' va' vq' vc', Blk W' L (L5 now' va' vq' g' vc') 83 → True) : Og 3 agC 36 B W' va gs ∧ Rg 4 wtC W' vq qs ∧ Ow .i64 3 B W' vc cs :=
  ⟨World.ownsRow.kept h.ag hf (.inr h.nva), h.qu.grown hf (by rcases h.nvq with h | h; exact .inl h; exact .inr (.inr h)), World.ownsRow.kept h.ca hf (.inr h.nvc)⟩
theorem Lv.setNow {B : Nat} {W : World} {L : Nat} {now g : Int} {va vq vc : Value} {gs : List Ag} {qs : List Wt} {cs : List Int} (h : Lv B W L now g va vq vc gs qs cs) (t : Int) : Lv B (W.setCell ⟨L, 0, none⟩ (.int .i64 t)) L t g va vq vc gs qs cs := by
  obtain ⟨h1, h2, h3⟩ := h.fr (X := fun _ => False) (grown_set' W L 0 (.int .i64 t)) (fun _ _ _ _ _ _ => trivial)
  exact ⟨h.blk.set 0 _, h.lb, h1, h2, h3, h.nva, h.nvq, h.nvc, h.naq, h.nca, h.ncq⟩
theorem Lv.setGiven {B : Nat} {W : World} {L : Nat} {now g : Int} {va vq vc : Value} {gs : List Ag} {qs : List Wt} {cs : List Int} (h : Lv B W L now g va vq vc gs qs cs) (g' : Int) : Lv B (W.setCell ⟨L, 3, none⟩ (.int .i64 g')) L now g' va vq vc gs qs cs := by
  obtain ⟨h1, h2, h3⟩ := h.fr (X := fun _ => False) (grown_set' W L 3 (.int .i64 g')) (fun _ _ _ _ _ _ => trivial)
  exact ⟨h.blk.set 3 _, h.lb, h1, h2, h3, h.nva, h.nvq, h.nvc, h.naq, h.nca, h.ncq⟩
/-- another queue, which shares no block with what is written -/
theorem Lv.setQueue {B : Nat} {W : World} {L : Nat} {now g : Int} {va vq vc vq' : Value} {gs : List Ag} {qs qs' : List Wt} {cs : List Int} (h : Lv B W L now g va vq vc gs qs cs) (hr : Rg 4 wtC W vq' qs') (h1' : qs' = [] ∨ vq'.ownBlock ≠ some L) (h2' : qs' = [] ∨ va.ownBlock = none ∨ vq'.ownBlock ≠ va.ownBlock) (h3' : qs' = [] ∨ vc.ownBlock = none ∨ vq'.ownBlock ≠ vc.ownBlock) :
    Lv B (W.setCell ⟨L, 2, none⟩ vq') L now g va vq' vc gs qs' cs := by
  have hg := grown_set' W L 2 vq'
  obtain ⟨h1, -, h3⟩ := h.fr (X := fun _ => False) hg (fun _ _ _ _ _ _ => trivial)
  exact ⟨h.blk.set 2 _, h.lb, h1, hr.grown hg (by rcases h1' with h | h; exact .inl h; exact .inr (.inr h)), h3, h.nva, h1', h.nvc, h2', h.nca, h3'⟩
/-- other calls, in a new block or the old one -/
theorem Lv.setCalls {B : Nat} {W : World} {L : Nat} {now g : Int} {va vq vc vc' : Value} {gs : List Ag} {qs : List Wt} {cs cs' : List Int} (h : Lv B W L now g va vq vc gs qs cs) (hr : Ow .i64 3 B W vc' cs') (h1' : vc'.ownBlock ≠ some L) (h2' : vc'.ownBlock = none ∨ vc'.ownBlock ≠ va.ownBlock) (h3' : qs = [] ∨ vc'.ownBlock = none ∨ vq.ownBlock ≠ vc'.ownBlock) :
    Lv B (W.setCell ⟨L, 4, none⟩ vc') L now g va vq vc' gs qs cs' := by
  have hg := grown_set' W L 4 vc'
  obtain ⟨h1, h2, -⟩ := h.fr (X := fun _ => False) hg (fun _ _ _ _ _ _ => trivial)
  exact ⟨h.blk.set 4 _, h.lb, h1, h2, World.ownsRow.kept hr hg (.inr h1'), h.nva, h.nvq, h1', h.naq, h2', h3'⟩
/-- an agent's cells written -/
theorem Lv.setAgent {B : Nat} {W : World} {L b cap : Nat} {now g : Int} {vq vc : Value} {gs : List Ag} {qs : List Wt} {cs : List Int} (h : Lv B W L now g (.slice (some ⟨b, 0, none⟩) gs.length cap) vq vc gs qs cs) (W' : World) (gs' : List Ag) (hl : gs'.length = gs.length) (hg : W.grownBy W' (some b)) (ho : Og 3 agC 36 B W' (.slice (some ⟨b, 0, none⟩) gs.length cap) gs') : Lv B W' L now g (.slice (some ⟨b, 0, none⟩) gs'.length cap) vq vc gs' qs cs := by
  have hbL : b ≠ L := fun e => h.nva (by simp [Value.ownBlock, e])
  rw [hl]
  refine ⟨?_, h.lb, ho, h.qu.grown hg ?_, World.ownsRow.kept h.ca hg ?_, h.nva, h.nvq, h.nvc, h.naq, h.nca, h.ncq⟩
  · rw [Blk, hg.block L h.blk.lt (by simp; exact Ne.symm hbL)]; exact h.blk
  · rcases h.naq with h1 | h1 | h1
    · exact .inl h1
    · simp [Value.ownBlock] at h1
    · exact .inr (.inr h1)
  · rcases h.nca with h1 | h1
    · exact .inl h1
    · exact .inr h1
theorem comer_c (k t a s p : Int) (w : World) : Calls Try.prog 78 #[.agg #[.int .i64 k, .int .i64 t, .int .i64 a, .int .i64 s, .int .i64 p]] w fun e w' => e = .returned (.agg #[.int .i64 a, .int .i64 s, .int .i64 p, .int .i64 t]) ∧ Below w.heap.size w w' := by
  have HB : Hid (Below w.heap.size w ((w.alloc (Obj.cells #[.int .i64 k, .int .i64 t, .int .i64 a, .int .i64 s, .int .i64 p] 38)).alloc (Obj.cells #[.int .i64 a, .int .i64 s, .int .i64 p, .int .i64 t] 74))) := ((Below.refl _ _).alloc (Nat.le_refl _) _).alloc (by simp) _
  go_enter Try.func78, Try.ntmps78
  go_wp2
  exact bodyPost_ret (v := .agg #[.int .i64 a, .int .i64 s, .int .i64 p, .int .i64 t]) (results_cell_row rfl _ _ _ 74 _ (0, 0) _ rfl (Blk.newAt _ (w.heap.size + 1) _ 74 (by simp)) Try.underlying74 rfl sizeWt) rfl ⟨rfl, HB.out⟩
set_option maxHeartbeats 1600000 in
theorem has_c (B L : Nat) (now g : Int) (va vq vc : Value) (gs : List Ag) (qs : List Wt) (cs : List Int) (x : Int) (w : World) (h : Lv B w L now g va vq vc gs qs cs) :
   Calls Try.prog 82 #[.pointer (some ⟨L, 0, none⟩), .int .i64 x] w fun e w' => e = .returned (.bool (decide (0 ≤ x ∧ x < gs.length))) ∧ w' = w := by
  have c1 := h.blk.cell 1
  simp at c1
  obtain ⟨a, cap, rfl⟩ := h.ag.form
  have HL : Hid (Lv B w L now g (.slice a gs.length cap) vq vc gs qs cs) := h
  clear h
  by_cases h0 : 0 ≤ x <;> by_cases h1 : x < (gs.length : Int)
  all_goals
    go_enter Try.func82, Try.ntmps82
    go_wp2
    go_ret
    exact ⟨by simp [h0, h1], rfl⟩
/-- callers behind a row that has no room -/
theorem growWt {ops : Array Oper} {rest : List Oper} {o : Oper} {a : Act} {w : World} {Q : Exit → Act → World → Prop} (hgd : o.guard = none) (s x : Operand)
    (ho : o.op = .call { callee := .builtin .append, args := #[s, x], argTypes := #[25, 25] }) (ao : Option Addr) (m : Nat) (ls : List Wt) (hs : a.eval s = .slice ao m m) (hm : ls.length = m)
    (h3 : ls = [] ∨ ∃ b off, ao = some ⟨b, off, none⟩ ∧ ∀ i (h : i < ls.length), w.rangeAt b (off + i * 4) (wtC ls[i]))
    (v2 : Value) (l2 : List Wt) (hx : a.eval x = v2) (hr : Rg 4 wtC w v2 l2) (h0 : 0 < l2.length) (hl : ls.length + l2.length ≤ 1099511627776)
    (h : ∀ v' w', Og 4 wtC 74 w.heap.size w' v' (ls ++ l2) → w.grownBy w' none → wpList Try.prog ops Q rest (a.put o.dst v') w') : wpList Try.prog ops Q (o :: rest) a w := by
  obtain ⟨i0, hi, hz0, hz1, hz2⟩ := info_parts infoWt
  obtain ⟨av, cap, rfl, h1, h2, h4⟩ := hr
  rcases h4 with h4 | ⟨b2, off2, rfl, h4⟩
  · subst h4; simp at h0
  refine wpList_append_grows w hgd s x 25 ho 74 i0 (.agg #[.int .i64 0, .int .i64 0, .int .i64 0, .int .i64 0]) 4 32 Try.underlying25 hi hz0 hz1 hz2 rfl (by decide) ao m m (ls.flatMap wtC) hs ?_ (by rw [fm_len wtC_len, hm]) ?_ ⟨b2, off2, none⟩ l2.length cap (l2.flatMap wtC) hx (fm_len wtC_len l2) (fm_news wtC_len h4) wtC_one (by omega) (by unfold maxLen; omega) (by omega) ?_
  · intro e
    rcases h3 with h3 | ⟨b, off, h3, -⟩
    · subst h3; simp at hm; omega
    · rw [e] at h3; cases h3
  · intro bb hbb
    rcases h3 with h3 | ⟨b, off, h3, h5⟩
    · subst h3; intro j u hu; simp at hu
    · rw [h3] at hbb; cases hbb
      exact fm_news wtC_len h5
  · intro v' w' g1 g2
    refine h v' w' ?_ g2
    rw [Og, List.flatMap_append, List.length_append, hm]; exact g1
set_option maxHeartbeats 3200000 in
theorem come_c (B L : Nat) (now g : Int) (va vq vc : Value) (gs : List Ag) (qs : List Wt) (cs : List Int) (q : Wt) (w : World) (h : Lv B w L now g va vq vc gs qs cs) (hn : qs.length ≤ 1048576) :
   Calls Try.prog 80 #[.pointer (some ⟨L, 0, none⟩), .agg #[.int .i64 q.1, .int .i64 q.2.1, .int .i64 q.2.2.1, .int .i64 q.2.2.2]] w fun e w' => e = .returned (.tuple #[]) ∧ ∃ vq', Lv B w' L now g va vq' vc gs (qs ++ [q]) cs ∧ Below B w w' := by
  obtain ⟨W1, hW1⟩ : ∃ W1, w.alloc (Obj.cells #[.int .i64 q.1, .int .i64 q.2.1, .int .i64 q.2.2.1, .int .i64 q.2.2.2] 74) = W1 := ⟨_, rfl⟩
  have hb : Below w.heap.size w W1 := hW1 ▸ (Below.refl _ _).alloc (Nat.le_refl _) _
  have k0 : Blk W1 w.heap.size #[.int .i64 q.1, .int .i64 q.2.1, .int .i64 q.2.2.1, .int .i64 q.2.2.2] 74 := hW1 ▸ Blk.new _ _ _
  have hL1 := h.below hb
  have hBL : B ≤ w.heap.size := Nat.le_trans h.lb (Nat.le_of_lt h.blk.lt)
  have HL1 : Hid (Lv B W1 L now g va vq vc gs qs cs) := hL1
  have HB1 : Hid (Below B w W1) := hb.mono hBL
  have hLw : L < w.heap.size := h.blk.lt
  have hqu := hL1.qu
  obtain ⟨aq, cq, rfl, q1, q2, q3⟩ := hqu
  unfold maxLen at q2
  obtain ⟨m, hm⟩ : ∃ m, qs.length = m := ⟨_, rfl⟩
  have HM : Hid (qs.length = m) := hm
  rw [hm] at HL1 hL1 q1 hn h
  have hm1 : (0 : Int) ≤ (m : Int) := by omega
  have hm2 : (m : Int) ≤ (cq : Int) := by omega
  have Q3 : Hid (qs = [] ∨ ∃ b off, aq = some ⟨b, off, none⟩ ∧ ∀ i (h : i < qs.length), W1.rangeAt b (off + i * 4) (wtC qs[i])) := q3
  obtain ⟨S, hS⟩ : ∃ S : World → Prop, ∀ W, S W ↔ Below W1.heap.size W1 W := ⟨_, fun _ => Iff.rfl⟩
  have z0 : ∀ W : At S, W.wd.cell? ⟨w.heap.size, 0, none⟩ = some (.int .i64 q.1) := fun W => (k0.below ((hS _).1 W.ok) k0.lt).cell 0
  have z1 : ∀ W : At S, W.wd.cell? ⟨w.heap.size, 1, none⟩ = some (.int .i64 q.2.1) := fun W => (k0.below ((hS _).1 W.ok) k0.lt).cell 1
  have z2 : ∀ W : At S, W.wd.cell? ⟨w.heap.size, 2, none⟩ = some (.int .i64 q.2.2.1) := fun W => (k0.below ((hS _).1 W.ok) k0.lt).cell 2
  have z3 : ∀ W : At S, W.wd.cell? ⟨w.heap.size, 3, none⟩ = some (.int .i64 q.2.2.2) := fun W => (k0.below ((hS _).1 W.ok) k0.lt).cell 3
  have u2 : ∀ W : At S, W.wd.cell? ⟨L, 2, none⟩ = some (.slice aq m cq) := fun W => (hL1.blk.below ((hS _).1 W.ok) hL1.blk.lt).cell 2
  have c2 : w.cell? ⟨L, 2, none⟩ = some (.slice aq m cq) := h.blk.cell 2
  have HS : Hid (∀ W, S W ↔ Below W1.heap.size W1 W) := hS
  have ne : Nonempty (At S) := ⟨⟨W1, (hS _).2 (Below.refl _ _)⟩⟩
  have HW1 : Hid (w.alloc (Obj.cells #[.int .i64 q.1, .int .i64 q.2.1, .int .i64 q.2.2.1, .int .i64 q.2.2.2] 74) = W1) := hW1
  clear hb k0 hL1 hS hW1 hm h q3 hBL
  go_enter Try.func80, Try.ntmps80
  go_wp2_with (fail)
  rw [HW1.out]
  refine region_mixA [true, true, true, true, true, true, true, true, true, false, false, false, false, false] 11 2 S (by kernel_rfl) rfl (by kernel_rfl) (fun _ _ _ _ _ h => h) ((HS.out _).2 (Below.refl _ _).drew) ?_
  simp only [selT, selF]
  repeat (go_big_quiet_step (fail))
  refine wpQuiet_nil ?_
  refine tail_step ?_
  clear z0 z1 z2 z3 u2 ne c2
  obtain ⟨W2, hW2⟩ : ∃ W2, (W1.alloc (Obj.cells #[.int .i64 q.1, .int .i64 q.2.1, .int .i64 q.2.2.1, .int .i64 q.2.2.2] 74)).drew = W2 := ⟨_, rfl⟩
  have b2 : Below W1.heap.size W1 W2 := hW2 ▸ ((Below.refl _ _).alloc (Nat.le_refl _) _).drew
  have HB2 : Hid (Below W1.heap.size W1 W2) := b2
  have X2 : Hid (Rg 4 wtC W2 (.slice (some ⟨W1.heap.size, 0, none⟩) 1 1) [q]) := by
    refine ⟨_, 1, rfl, by simp, by simp [maxLen], .inr ⟨W1.heap.size, 0, rfl, fun i hi => ?_⟩⟩
    obtain rfl : i = 0 := by simpa using hi
    have kk : Blk W2 W1.heap.size #[.int .i64 q.1, .int .i64 q.2.1, .int .i64 q.2.2.1, .int .i64 q.2.2.2] 74 := hW2 ▸ (Blk.new _ _ 74).drew
    intro j u hu
    have := kk.cell j
    simp only [Nat.zero_mul, Nat.zero_add, List.getElem_cons_zero] at hu ⊢
    rw [this]
    simpa using hu
  have HW2 : Hid ((W1.alloc (Obj.cells #[.int .i64 q.1, .int .i64 q.2.1, .int .i64 q.2.2.1, .int .i64 q.2.2.2] 74)).drew = W2) := hW2
  clear b2 hW2
  go_wp2
  try rw [HW2.out]
  refine ⟨(HS.out _).2 HB2.out, tail_step ?_⟩
  refine growWt rfl _ _ rfl aq m qs rfl HM.out ?_ _ [q] rfl X2.out (by simp) (by simp; have := HM.out; omega) ?_
  · rcases Q3.out with h | ⟨b, off, h1, h2⟩
    · exact .inl h
    · exact .inr ⟨b, off, h1, fun i hi => rangeAt_below (h2 i hi) HB2.out (block_lt_of_cell (h2 i hi 0 _ rfl))⟩
  intro v' w3 o3 g3
  have B3 : Below W1.heap.size W1 w3 := HB2.out.trans (grown_below g3 HB2.out.size (by simp))
  have HB3 : Hid (Below W1.heap.size W1 w3) := B3
  have HBw : Hid (Below B w w3) := HB1.out.trans (B3.mono (Nat.le_trans (by have := HL1.out.lb; omega) HB1.out.size))
  have hsz : W1.heap.size ≤ w3.heap.size := B3.size
  have L3 := HL1.out.below B3
  have hlb : W1.heap.size ≤ W2.heap.size := HB2.out.size
  have hL1lt : L < W1.heap.size := HL1.out.blk.lt
  have hnew : ∀ k, v'.ownBlock = some k → W1.heap.size ≤ k := fun k e => Nat.le_trans hlb (o3.lt k e).1
  have HLV : Hid (Lv B (w3.setCell ⟨L, 2, none⟩ v') L now g va v' vc gs (qs ++ [q]) cs) := by
    refine L3.setQueue (o3.rd wtC_len) (.inr fun e => by have := hnew _ e; omega) ?_ ?_
    · cases hx : va.ownBlock with
      | none => exact .inr (.inl rfl)
      | some k => exact .inr (.inr fun e => by have := hnew _ e; have := (HL1.out.ag.lt k hx).2; omega)
    · cases hx : vc.ownBlock with
      | none => exact .inr (.inl rfl)
      | some k => exact .inr (.inr fun e => by have := hnew _ e; have := (World.ownsRow.lt HL1.out.ca k hx).2; omega)
  have HBF : Hid (Below B w (w3.setCell ⟨L, 2, none⟩ v')) := HBw.out.setCell (by dsimp only; have := HL1.out.lb; omega) _
  obtain ⟨a3, p3, h9⟩ := o3.form
  rw [show (qs ++ [q]).length = qs.length + 1 by simp] at h9
  subst h9
  have d2 := L3.blk.cell 2
  have f2 := L3.blk.frozen 2
  simp at d2
  clear B3 o3 g3 L3 HL1 HB1 X2 Q3
  go_wp2
  refine ⟨(HS.out _).2 HB3.out, tail_end ?_⟩
  go_wp2
  go_end0
  exact ⟨rfl, _, HLV.out, HBF.out⟩
theorem noneWt {ops : Array Oper} {rest : List Oper} {o : Oper} {a : Act} {w : World} {Q : Exit → Act → World → Prop} (hgd : o.guard = none) (s x : Operand)
    (ho : o.op = .call { callee := .builtin .append, args := #[s, x], argTypes := #[25, 25] }) (ad ad2 : Addr) (p c : Nat) (hs : a.eval s = .slice (some ad) p p) (hx : a.eval x = .slice (some ad2) 0 c)
    (h : wpList Try.prog ops Q rest (a.put o.dst (.slice (some ad) p p)) w) : wpList Try.prog ops Q (o :: rest) a w := by
  obtain ⟨i0, hi, hz0, hz1, hz2⟩ := info_parts infoWt
  refine wpList_plain hgd fun K hK => ?_
  have hr : (Builtin.append_ #[25, 25] o.type #[.slice (some ad) p p, .slice (some ad2) 0 c]).run Try.prog w = .ok (.slice (some ad) p p) w := by
    simp [Builtin.append_, run_underlying Try.underlying25, sizeOf, typeInfo, hi, Builtin.lenOf, Builtin.firstCells, storeCells, loadCells, loadCellsFrom]
  unfold Oper.wp execOp
  simp only [ho, resolve, invoke, builtin, Sem.run_bind, Sem.run_pure, Result.andThen_ok, List.map_toArray, List.map_cons, List.map_nil, hs, hx, hr]
  exact hK _ _ h
set_option maxHeartbeats 3200000 in
theorem leave_c (B L : Nat) (now g : Int) (va vq vc : Value) (gs : List Ag) (qs : List Wt) (cs : List Int) (p : Nat) (w : World) (h : Lv B w L now g va vq vc gs qs cs) (hn : qs.length ≤ 1048576) (hp : p < qs.length) :
   Calls Try.prog 99 #[.pointer (some ⟨L, 0, none⟩), .int .i64 p] w fun e w' => e = .returned (.tuple #[]) ∧ ∃ vq', Lv B w' L now g va vq' vc gs (qs.eraseIdx p) cs ∧ Below B w w' ∧ w.grownBy w' (some L) := by
  have HL1 : Hid (Lv B w L now g va vq vc gs qs cs) := h
  have hLw : L < w.heap.size := h.blk.lt
  have hBL : B ≤ w.heap.size := Nat.le_trans h.lb (Nat.le_of_lt hLw)
  have hqu := h.qu
  obtain ⟨aq, cq, rfl, q1, q2, q3⟩ := hqu
  obtain ⟨b, off, rfl, h4⟩ : ∃ b off, aq = some ⟨b, off, none⟩ ∧ ∀ i (h : i < qs.length), w.rangeAt b (off + i * 4) (wtC qs[i]) := by
    rcases q3 with h | h
    · subst h; simp at hp
    · exact h
  unfold maxLen at q2
  obtain ⟨m, hm⟩ : ∃ m, qs.length = m := ⟨_, rfl⟩
  have HM : Hid (qs.length = m) := hm
  rw [hm] at HL1 q1 hn h hp
  have H4 : Hid (∀ i (h : i < qs.length), w.rangeAt b (off + i * 4) (wtC qs[i])) := h4
  obtain ⟨S, hS⟩ : ∃ S : World → Prop, ∀ W, S W ↔ Below w.heap.size w W := ⟨_, fun _ => Iff.rfl⟩
  have u2 : ∀ W : At S, W.wd.cell? ⟨L, 2, none⟩ = some (.slice (some ⟨b, off, none⟩) m cq) := fun W => (h.blk.below ((hS _).1 W.ok) h.blk.lt).cell 2
  have hm1 : (0 : Int) ≤ (p : Int) := by omega
  have hm2 : (p : Int) ≤ (cq : Int) := by omega
  have hm3 : (p : Int) + 1 ≤ (m : Int) := by omega
  have hm4 : (p : Int) < (m : Int) := by omega
  have hm5 : (m : Int) ≤ (cq : Int) := by omega
  have HS : Hid (∀ W, S W ↔ Below w.heap.size w W) := hS
  have ne : Nonempty (At S) := ⟨⟨w, (hS _).2 (Below.refl _ _)⟩⟩
  clear hS hm h q3 h4
  go_enter Try.func99, Try.ntmps99
  go_wp2_with (fail)
  refine region_mixA [true, true, true, true, true, true, true, true, true, true, true, true, true, true, true, false, false, false, false] 16 1 S (by kernel_rfl) rfl (by kernel_rfl) (fun _ _ _ _ _ h => h) ((HS.out _).2 (Below.refl _ _).drew) ?_
  simp only [selT, selF]
  repeat (go_big_quiet_step (fail))
  refine wpQuiet_nil ?_
  refine tail_step ?_
  have HLst : Hid (∀ v' w3, Rg 4 wtC w3 v' (qs.eraseIdx p) → Below w.heap.size w w3 → (v'.ownBlock = some b ∨ ∀ k, v'.ownBlock = some k → w.heap.size ≤ k) →
      Lv B (w3.setCell ⟨L, 2, none⟩ v') L now g va v' vc gs (qs.eraseIdx p) cs ∧ Below B w (w3.setCell ⟨L, 2, none⟩ v') ∧ w.grownBy (w3.setCell ⟨L, 2, none⟩ v') (some L)) := by
    intro v' w3 hr hb hv
    have hq0 : qs ≠ [] := fun e => by have := HM.out; rw [e] at this; simp at this; omega
    refine ⟨(HL1.out.below hb).setQueue hr ?_ ?_ ?_, (hb.mono hBL).setCell (by dsimp only; exact HL1.out.lb) _, grown_trans ⟨hb.os, hb.tape, hb.output, hb.size, fun j hj _ => hb.block j hj⟩ (grown_set' _ _ _ _)⟩
    · rcases hv with hv | hv
      · rw [hv]; exact (HL1.out.nvq.resolve_left hq0 |> fun h => .inr (by simpa [Value.ownBlock] using h))
      · exact .inr fun e => by have := hv _ e; omega
    · rcases hv with hv | hv
      · rw [hv]; exact .inr (by simpa [Value.ownBlock] using HL1.out.naq.resolve_left hq0)
      · cases hx : va.ownBlock with
        | none => exact .inr (.inl rfl)
        | some k => exact .inr (.inr fun e => by have := hv _ e; have := (HL1.out.ag.lt k hx).2; omega)
    · rcases hv with hv | hv
      · rw [hv]; exact .inr (by simpa [Value.ownBlock] using HL1.out.ncq.resolve_left hq0)
      · cases hx : vc.ownBlock with
        | none => exact .inr (.inl rfl)
        | some k => exact .inr (.inr fun e => by have := hv _ e; have := (World.ownsRow.lt HL1.out.ca k hx).2; omega)
  have HD2 : Hid (∀ W, Below w.heap.size w W → W.cell? ⟨L, 2, none⟩ = some (.slice (some ⟨b, off, none⟩) m cq) ∧ W.frozen? ⟨L, 2, none⟩ = false) := fun W hW => ⟨(HL1.out.blk.below hW HL1.out.blk.lt).cell 2, (HL1.out.blk.below hW HL1.out.blk.lt).frozen 2⟩
  clear u2 ne
  by_cases hlast : m = p + 1
  · obtain ⟨ad2, had2⟩ : ∃ ad2, (if cq = p + 1 then some (⟨b, off, none⟩ : Addr) else some ⟨b, off + (p + 1) * 4, none⟩) = some ad2 := by split <;> exact ⟨_, rfl⟩
    have h0 : m - (p + 1) = 0 := by omega
    rw [had2, h0]
    refine noneWt rfl _ _ rfl ⟨b, off, none⟩ ad2 p (cq - (p + 1)) rfl rfl ?_
    have hR : Rg 4 wtC w.drew (.slice (some ⟨b, off, none⟩) p p) (qs.eraseIdx p) := by
      have e : qs.eraseIdx p = qs.take p := by
        rw [List.eraseIdx_eq_take_drop_succ, List.drop_eq_nil_of_le (by have := HM.out; omega)]; simp
      rw [e]
      have hl : (qs.take p).length = p := by simp; have := HM.out; omega
      refine ⟨_, p, by rw [hl], by rw [hl]; exact Nat.le_refl _, by unfold maxLen; omega, .inr ⟨b, off, rfl, fun i hi => ?_⟩⟩
      have := H4.out i (by rw [hl] at hi; have := HM.out; omega)
      simpa using rangeAt_below this (Below.refl _ _).drew (block_lt_of_cell (this 0 _ rfl))
    obtain ⟨HF1, HF2⟩ := HLst.out _ _ hR (Below.refl _ _).drew (.inl rfl)
    have HFF : Hid (Lv B (w.drew.setCell ⟨L, 2, none⟩ (.slice (some ⟨b, off, none⟩) p p)) L now g va (.slice (some ⟨b, off, none⟩) p p) vc gs (qs.eraseIdx p) cs ∧ Below B w (w.drew.setCell ⟨L, 2, none⟩ (.slice (some ⟨b, off, none⟩) p p)) ∧ w.grownBy (w.drew.setCell ⟨L, 2, none⟩ (.slice (some ⟨b, off, none⟩) p p)) (some L)) := ⟨HF1, HF2⟩
    obtain ⟨d2, f2⟩ := HD2.out w.drew (Below.refl _ _).drew
    clear HF1 HF2 hR HLst HD2 had2 h0
    go_wp2
    refine ⟨(HS.out _).2 (Below.refl _ _).drew, tail_end ?_⟩
    go_wp2
    go_end0
    exact ⟨rfl, _, HFF.out⟩
  · have hc : ¬ cq = p + 1 := by omega
    rw [if_neg hc]
    have hR2 : Rg 4 wtC w.drew (.slice (some ⟨b, off + (p + 1) * 4, none⟩) (m - (p + 1)) (cq - (p + 1))) (qs.drop (p + 1)) := by
      have hl : (qs.drop (p + 1)).length = m - (p + 1) := by rw [List.length_drop, HM.out]
      refine ⟨_, cq - (p + 1), by rw [hl], by rw [hl]; omega, by unfold maxLen; omega, .inr ⟨b, off + (p + 1) * 4, rfl, fun i hi => ?_⟩⟩
      rw [hl] at hi
      have := H4.out (p + 1 + i) (by have := HM.out; omega)
      rw [show off + (p + 1) * 4 + i * 4 = off + (p + 1 + i) * 4 by omega, List.getElem_drop]
      exact rangeAt_below this (Below.refl _ _).drew (block_lt_of_cell (this 0 _ rfl))
    refine growWt rfl _ _ rfl (some ⟨b, off, none⟩) p (qs.take p) rfl (by simp; have := HM.out; omega) (.inr ⟨b, off, rfl, fun i hi => ?_⟩) _ (qs.drop (p + 1)) rfl hR2 (by rw [List.length_drop, HM.out]; omega) (by simp; have := HM.out; omega) ?_
    · have hi' : i < qs.length := by rw [List.length_take] at hi; omega
      have := H4.out i hi'
      rw [List.getElem_take]
      exact rangeAt_below this (Below.refl _ _).drew (block_lt_of_cell (this 0 _ rfl))
    intro v' w3 o3 g3
    rw [← List.eraseIdx_eq_take_drop_succ] at o3
    have B3 : Below w.heap.size w w3 := (Below.refl _ _).drew.trans (grown_below g3 (Nat.le_refl _) (by simp))
    have HB3 : Hid (Below w.heap.size w w3) := B3
    obtain ⟨HF1, HF2⟩ := HLst.out _ _ (o3.rd wtC_len) B3 (.inr fun k e => (o3.lt k e).1)
    have HFF : Hid (Lv B (w3.setCell ⟨L, 2, none⟩ v') L now g va v' vc gs (qs.eraseIdx p) cs ∧ Below B w (w3.setCell ⟨L, 2, none⟩ v') ∧ w.grownBy (w3.setCell ⟨L, 2, none⟩ v') (some L)) := ⟨HF1, HF2⟩
    obtain ⟨d2, f2⟩ := HD2.out w3 B3
    obtain ⟨a3, p3, h9⟩ := o3.form
    obtain ⟨ml, hml⟩ : ∃ ml, (qs.eraseIdx p).length = ml := ⟨_, rfl⟩
    rw [hml] at h9
    subst h9
    clear HF1 HF2 hR2 HLst HD2 o3 g3 B3 hml
    go_wp2
    refine ⟨(HS.out _).2 HB3.out, tail_end ?_⟩
    go_wp2
    go_end0
    exact ⟨rfl, _, HFF.out⟩
end Go.Proofs.Ytpmmgbinogokfaa
namespace Go.Proofs.Ytpmmgbinogokfaa
open Go.RowKit Go.ChangeShapes Go.WideShapes Go.ChangeAt
set_option linter.unusedVariables false
set_option linter.unusedSimpArgs false
set_option maxRecDepth 8000
theorem fm_set1 {α : Type} {c : α → List Value} {n : Nat} (hc : ∀ x, (c x).length = n) (ls : List α) (i k : Nat) (x y : α) (v : Value) (hx : ls[i]? = some x) (hk : k < n) (hy : c y = (c x).set k v) : (ls.flatMap c).set (i * n + k) v = (ls.set i y).flatMap c := by
  obtain ⟨hi, hx'⟩ := List.getElem?_eq_some_iff.1 hx
  apply List.ext_getElem?
  intro j
  by_cases hj : j < ls.length * n
  · have hn : 0 < n := by omega
    have hq : j / n < ls.length := (Nat.div_lt_iff_lt_mul hn).2 hj
    have he : j = j / n * n + j % n := by rw [Nat.mul_comm]; exact (Nat.div_add_mod j n).symm
    have hm : j % n < n := Nat.mod_lt _ hn
    obtain ⟨a, ha⟩ : ∃ a, a = j / n := ⟨_, rfl⟩
    obtain ⟨b, hb⟩ : ∃ b, b = j % n := ⟨_, rfl⟩
    rw [← ha] at hq he
    rw [← hb] at hm he
    clear ha hb
    subst he
    rw [List.getElem?_set, fm_at hc (ls.set i y) a b (by simpa using hq) hm, fm_at hc ls a b hq hm, fm_len hc]
    by_cases hai : i = a
    · subst hai
      simp only [List.getElem_set_self, hy, hx', List.getElem?_set, hc]
      by_cases hkb : k = b
      · subst hkb; simp [hj, hk]
      · rw [if_neg (by omega), if_neg hkb]
    · have hne : ¬ i * n + k = a * n + b := by
        intro e
        rcases Nat.lt_or_gt_of_ne hai with h | h
        · have := Nat.mul_le_mul_right n (show i + 1 ≤ a by omega)
          rw [Nat.succ_mul] at this; omega
        · have := Nat.mul_le_mul_right n (show a + 1 ≤ i by omega)
          rw [Nat.succ_mul] at this; omega
      rw [if_neg hne]
      simp [List.getElem_set, hai]
  · rw [List.getElem?_eq_none (by rw [List.length_set, fm_len hc]; omega), List.getElem?_eq_none (by rw [fm_len hc]; simp; omega)]
theorem own_set1 {α : Type} {c : α → List Value} {n : Nat} (hc : ∀ x, (c x).length = n) {e : TypeId} {base b cap m : Nat} {w : World} {ls : List α} (h : Og n c e base w (.slice (some ⟨b, 0, none⟩) m cap) ls) (hm : ls.length = m) (i k : Nat) (x y : α) (v : Value) (hx : ls[i]? = some x) (hk : k < n) (hy : c y = (c x).set k v) :
    Og n c e base (w.setCell ⟨b, i * n + k, none⟩ v) (.slice (some ⟨b, 0, none⟩) m cap) (ls.set i y) := by
  subst hm
  have h1 := (World.ownsRow.stored h (i * n + k) v).1
  rw [fm_set1 hc ls i k x y v hx hk hy] at h1
  rw [Og, List.length_set]; exact h1
theorem set_self {α : Type} {ls : List α} {i : Nat} {x : α} (h : ls[i]? = some x) : ls.set i x = ls := by
  obtain ⟨hi, rfl⟩ := List.getElem?_eq_some_iff.1 h
  exact List.set_getElem_self hi
theorem set_at {α : Type} {ls : List α} {i : Nat} {x y : α} (h : ls[i]? = some x) : (ls.set i y)[i]? = some y := by
  obtain ⟨hi, rfl⟩ := List.getElem?_eq_some_iff.1 h
  simp [hi]
theorem Lv.agb {B : Nat} {W : World} {L : Nat} {now g : Int} {va vq vc : Value} {gs : List Ag} {qs : List Wt} {cs : List Int} (h : Lv B W L now g va vq vc gs qs cs) {i : Nat} (hi : i < gs.length) : ∃ b cap, va = .slice (some ⟨b, 0, none⟩) gs.length cap ∧ b ≠ L ∧ B ≤ b ∧ b < W.heap.size ∧ gs.length ≤ cap := by
  rcases h.ag.2 with ⟨-, h1⟩ | ⟨b, cap, cur, h1, h2, h3, h4, -⟩
  · omega
  · exact ⟨b, cap, h1, fun e => h.nva (by rw [h1]; simp [Value.ownBlock, e]), h2, Blk.lt h3, h4⟩
theorem Og.cells {B b m cap : Nat} {W : World} {gs : List Ag} (h : Og 3 agC 36 B W (.slice (some ⟨b, 0, none⟩) m cap) gs) (hm : gs.length = m) {i : Nat} {x : Ag} (hx : gs[i]? = some x) : W.cell? ⟨b, i * 3, none⟩ = some (.int .i64 x.1) ∧ W.cell? ⟨b, i * 3 + 1, none⟩ = some (.int .i64 x.2.1) ∧ W.cell? ⟨b, i * 3 + 2, none⟩ = some (.int .i64 x.2.2) ∧ W.frozen? ⟨b, i * 3, none⟩ = false ∧ W.frozen? ⟨b, i * 3 + 1, none⟩ = false ∧ W.frozen? ⟨b, i * 3 + 2, none⟩ = false := by
  subst hm
  obtain ⟨hi, hx'⟩ := List.getElem?_eq_some_iff.1 hx
  have h0 := (World.ownsRow.cellAt h (i * 3 + 0) (by omega)).trans (fm_at agC_len gs i 0 hi (by decide))
  have h1 := (World.ownsRow.cellAt h (i * 3 + 1) (by omega)).trans (fm_at agC_len gs i 1 hi (by decide))
  have h2 := (World.ownsRow.cellAt h (i * 3 + 2) (by omega)).trans (fm_at agC_len gs i 2 hi (by decide))
  rw [hx'] at h0 h1 h2
  exact ⟨h0, h1, h2, World.ownsRow.frozenAt h _, World.ownsRow.frozenAt h _, World.ownsRow.frozenAt h _⟩
set_option maxHeartbeats 3200000 in
theorem end_c (B L : Nat) (now g : Int) (va vq vc : Value) (gs : List Ag) (qs : List Wt) (cs : List Int) (i : Nat) (x : Ag) (w : World) (h : Lv B w L now g va vq vc gs qs cs) (hx : gs[i]? = some x) (hn : gs.length ≤ 1048576) :
   Calls Try.prog 83 #[.pointer (some ⟨L, 0, none⟩), .int .i64 i] w fun e w' => (x.2.1 = -1 ∧ e = .returned (.bool false) ∧ w' = w) ∨ (x.2.1 ≠ -1 ∧ e = .returned (.bool true) ∧ ∃ va', Lv B w' L now g va' vq vc (gs.set i (x.1, -1, now)) qs cs ∧ Below B w w') := by
  obtain ⟨hi, hx'⟩ := List.getElem?_eq_some_iff.1 hx
  obtain ⟨b, cap, rfl, hbL, hBb, hbw, hcap⟩ := h.agb hi
  obtain ⟨d0, d1, d2, f0, f1, f2⟩ := Og.cells h.ag rfl hx
  have HL : Hid (Lv B w L now g (.slice (some ⟨b, 0, none⟩) gs.length cap) vq vc gs qs cs) := h
  have HX : Hid (gs[i]? = some x) := hx
  obtain ⟨m, hm⟩ : ∃ m, gs.length = m := ⟨_, rfl⟩
  have HM : Hid (gs.length = m) := hm
  have HX' : Hid (gs[i] = x) := hx'
  rw [hm] at HL hi hn
  have c0 := h.blk.cell 0
  have c1 := h.blk.cell 1
  rw [hm] at c1
  simp at c0 c1
  obtain ⟨x1, x2, x3⟩ := x
  simp only at d0 d1 d2
  have hi1 : (0 : Int) ≤ (i : Int) := by omega
  have hi2 : (i : Int) < (m : Int) := by omega
  clear hx hx' h hm
  by_cases hb : x2 = -1
  · subst hb
    go_enter Try.func83, Try.ntmps83
    go_wp2
    go_ret
    exact .inl ⟨by trivial, rfl, rfl⟩
  have HNB : Hid (x2 ≠ -1) := hb
  have hbn : (x2 == -1) = false := by simp [hb]
  go_enter Try.func83, Try.ntmps83
  go_wp2
  clear d0 d1 d2 f0 f1 f2 c0 c1 hbn hb
  have HG : Hid (∀ W, w.grownBy W (some b) → W.cell? ⟨L, 0, none⟩ = some (.int .i64 now) ∧ W.cell? ⟨L, 1, none⟩ = some (.slice (some ⟨b, 0, none⟩) m cap)) := fun W hW => by
    have hk : Blk W L (L5 now (.slice (some ⟨b, 0, none⟩) m cap) vq g vc) 83 := by rw [Blk, hW.block L HL.out.blk.lt (by simp; exact Ne.symm hbL)]; exact HL.out.blk
    exact ⟨hk.cell 0, hk.cell 1⟩
  have HSL : Hid (∀ y : Ag, (gs.set i y).length = m) := fun y => by simpa using HM.out
  refine region_det [.pointer (some ⟨L, 0, none⟩), .pointer (some ⟨L, 0, none⟩), .pointer (some ⟨L, 1, none⟩), .slice (some ⟨b, 0, none⟩) m cap, .int .i64 i, .pointer (some ⟨L, 0, none⟩), .pointer (some ⟨L, 0, none⟩), .pointer (some ⟨L, 1, none⟩), .slice (some ⟨b, 0, none⟩) m cap, .int .i64 i,
      .pointer (some ⟨L, 0, none⟩), .pointer (some ⟨L, 0, none⟩), .pointer (some ⟨L, 0, none⟩), .int .i64 now, .pointer (some ⟨b, i * 3, none⟩), .pointer (some ⟨b, i * 3 + 1, none⟩), undef, .pointer (some ⟨b, i * 3, none⟩), .pointer (some ⟨b, i * 3 + 2, none⟩), undef]
    (fun d W => w.grownBy W (some b) ∧ Og 3 agC 36 B W (.slice (some ⟨b, 0, none⟩) m cap) (gs.set i (x1, (if d 16 = true then -1 else x2), (if d 19 = true then now else x3)))) (by kernel_rfl) (by kernel_rfl)
    (by simp only [putAll, Act.put, List.setIfInBounds_toArray, List.set_cons_succ, List.set_cons_zero]; exact rfl) ⟨⟨rfl, rfl, rfl, Nat.le_refl _, fun _ _ _ => rfl⟩, by simp only [Bool.false_eq_true, if_false]; rw [set_self HX.out]; exact HL.out.ag⟩ ⟨?_, ?_, ?_, ?_, ?_, ?_, ?_, ?_, ?_, ?_, ?_, ?_, ?_, ?_, ?_, ?_, ?_, ?_, ?_, ?_, trivial⟩ ?_
  case refine_21 =>
    rintro d W ⟨G, O⟩ hn
    have h16 := hn 16 (by decide)
    have h19 := hn 19 (by decide)
    rw [h16, h19] at O
    have HF : Hid (Lv B W L now g (.slice (some ⟨b, 0, none⟩) m cap) vq vc (gs.set i (x1, -1, now)) qs cs ∧ Below B w W) := by
      have hL := HL.out
      have hM := HM.out
      subst hM
      have := hL.setAgent W (gs.set i (x1, -1, now)) (by simp) G (by simpa using O)
      exact ⟨by simpa using this, grown_below G (by omega) (fun k e => by cases e; exact hBb)⟩
    clear G O hn h16 h19
    go_wp2
    go_ret
    exact .inr ⟨HNB.out, rfl, _, HF.out⟩
  all_goals (try (rintro d W ⟨G, O⟩ hn hd; obtain ⟨c0, c1⟩ := HG.out W G))
  iterate 16
    · go_wp2
      exact ⟨rfl, rfl, G, O⟩
  · obtain ⟨d0, d1, d2, f0, f1, f2⟩ := Og.cells O (HSL.out _) (set_at HX.out)
    have hO := own_set1 agC_len O (HSL.out _) i 1 _ (x1, -1, (if d 19 = true then now else x3)) (.int .i64 (-1)) (set_at HX.out) (by decide) rfl
    rw [List.set_set] at hO
    have HO : Hid (Og 3 agC 36 B (W.setCell ⟨b, i * 3 + 1, none⟩ (.int .i64 (-1))) (.slice (some ⟨b, 0, none⟩) m cap) (gs.set i (x1, -1, (if d 19 = true then now else x3)))) := hO
    have HGG : Hid (w.grownBy (W.setCell ⟨b, i * 3 + 1, none⟩ (.int .i64 (-1))) (some b)) := grown_trans G (grown_set' _ _ _ _)
    clear hO O G
    go_wp2
    exact ⟨rfl, rfl, HGG.out, HO.out⟩
  iterate 2
    · go_wp2
      exact ⟨rfl, rfl, G, O⟩
  · obtain ⟨d0, d1, d2, f0, f1, f2⟩ := Og.cells O (HSL.out _) (set_at HX.out)
    have hO := own_set1 agC_len O (HSL.out _) i 2 _ (x1, (if d 16 = true then -1 else x2), now) (.int .i64 now) (set_at HX.out) (by decide) rfl
    rw [List.set_set] at hO
    have HO : Hid (Og 3 agC 36 B (W.setCell ⟨b, i * 3 + 2, none⟩ (.int .i64 now)) (.slice (some ⟨b, 0, none⟩) m cap) (gs.set i (x1, (if d 16 = true then -1 else x2), now))) := hO
    have HGG : Hid (w.grownBy (W.setCell ⟨b, i * 3 + 2, none⟩ (.int .i64 now)) (some b)) := grown_trans G (grown_set' _ _ _ _)
    clear hO O G
    go_wp2
    exact ⟨rfl, rfl, HGG.out, HO.out⟩
end Go.Proofs.Ytpmmgbinogokfaa
