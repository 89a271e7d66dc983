/- Books copied by the program; no condition. -/
import Derived.Test.YtmfmlbiplagmiaaDoorEmp
import Derived.Test.YtmfmlbiplagmiaaDoorApn
import Derived.Laws.AppendOwnNone
namespace Go.Proofs.YtmfmlbiplagmiaaDoor
open Go.RowKit Go.ChangeShapes Go.WideShapes Go.ChangeAt
set_option linter.unusedVariables false
set_option linter.unusedSimpArgs false
set_option maxRecDepth 8000
theorem appTs {ops : Array Oper} {rest : List Oper} {o : Oper} {a : Act} {w : World} {Q : Exit → Act → World → Prop} (hgd : o.guard = none) (s x : Operand)
    (ho : o.op = .call { callee := .builtin .append, args := #[s, x], argTypes := #[24, 24] }) (base : Nat) (v : Value) (l0 : List Tk) (hs : a.eval s = v) (hown : Og 3 tkC 38 base w v l0)
    (v2 : Value) (ls : List Tk) (hx : a.eval x = v2) (hr : Rg 3 tkC w v2 ls) (hl : l0.length + ls.length ≤ 1099511627776) (hbase : base ≤ w.heap.size)
    (h : ∀ v' w', Og 3 tkC 38 base w' v' (l0 ++ ls) → w.grownBy w' v.ownBlock → (v'.ownBlock = v.ownBlock ∨ v'.ownBlock = some w.heap.size) → wpList Tryd.prog ops Q rest (a.put o.dst v') w') : wpList Tryd.prog ops Q (o :: rest) a w := by
  obtain ⟨i0, hi, hz0, hz1, hz2⟩ := info_parts infoTk
  obtain ⟨av, cap, rfl, h1, h2, h3⟩ := hr
  by_cases hav : av = none
  · subst hav
    have hl0 : ls = [] := by
      rcases h3 with h3 | ⟨b, off, e, -⟩
      · exact h3
      · cases e
    subst hl0
    refine wpList_plain hgd fun K hK => ?_
    have hx' : a.eval x = .slice none 0 cap := hx
    obtain ⟨v', w', hr, q1, q2, q3⟩ : ∃ v' w', (Builtin.append_ #[24, 24] o.type #[v, .slice none 0 cap]).run Tryd.prog w = .ok v' w' ∧ Og 3 tkC 38 base w' v' (l0 ++ []) ∧ w.grownBy w' v.ownBlock ∧ (v'.ownBlock = v.ownBlock ∨ v'.ownBlock = some w.heap.size) := by
      refine ⟨v, w, ?_, by simpa using hown, grown_refl _ _, .inl rfl⟩
      rcases hown.2 with ⟨rfl, h0⟩ | ⟨g, cp, cur, rfl, _, _, hnc, _⟩
      · simp [Builtin.append_, run_underlying Tryd.underlying24, sizeOf, typeInfo, hi, Builtin.lenOf, Builtin.firstCells]
      · simp [Builtin.append_, run_underlying Tryd.underlying24, sizeOf, typeInfo, hi, Builtin.lenOf, Builtin.firstCells, hnc, storeCells]
    unfold Oper.wp execOp
    simp only [ho, resolve, invoke, builtin, Sem.run_bind, Sem.run_pure, Result.andThen_ok, List.map_toArray, List.map_cons, List.map_nil, hs, hx', hr]
    exact hK _ _ (h v' w' q1 q2 q3)
  · obtain ⟨ad, rfl⟩ : ∃ ad, av = some ad := by cases av with | none => exact absurd rfl hav | some ad => exact ⟨ad, rfl⟩
    refine wpList_append_own_at w hgd s x 24 ho base 38 i0 (.agg #[.int .i64 0, .int .i64 0, .int .i64 0]) 3 24 Tryd.underlying24 hi hz0 hz1 hz2 rfl (by decide) v l0.length (l0.flatMap tkC) hs hown ad ls.length cap (ls.flatMap tkC) hx (fm_len tkC_len ls) ?_ tkC_one ?_ ?_ hbase ?_
    · rcases h3 with rfl | ⟨b, off, e, h4⟩
      · intro j u hu; simp at hu
      · cases e
        exact fm_news tkC_len h4
    · unfold maxLen; omega
    · omega
    · intro v' w' g1 g2 g3 g4
      refine h v' w' ?_ g2 g4
      rw [Og, List.flatMap_append, List.length_append]; exact g1
set_option maxHeartbeats 3200000 in
theorem cloneT_c (v : Value) (ls : List Tk) (w : World) (h : Rg 3 tkC w v ls) (hn : ls.length ≤ 1048576) : Calls Tryd.prog 75 #[v] w fun e w' => ∃ v', e = .returned v' ∧ Og 3 tkC 38 w.heap.size w' v' ls ∧ Below w.heap.size w w' := by
  have HR0 : Hid (Rg 3 tkC w v ls) := h
  obtain ⟨a, cap, rfl, -, -, h3⟩ := h
  have HL : Hid (ls.length ≤ 1048576) := hn
  have q29 : ∀ (w : World) (a : Option Addr) (n c n' c' : Nat), (binOp .eql 24 (.slice a n c) (.slice none n' c')).run Tryd.prog w = .ok (.bool a.isNone) w := fun w a n c n' c' => Lib.run_eql_slice_nil w _ _ a n c n' c' Tryd.underlying24
  cases a with
  | none =>
    obtain rfl : ls = [] := by
      rcases h3 with h3 | ⟨b, off, h3, -⟩
      · exact h3
      · cases h3
    go_enter Tryd.func75, Tryd.ntmps75
    go_wp2
    go_ret
    exact ⟨_, rfl, ⟨rfl, .inl ⟨rfl, rfl⟩⟩, Below.refl _ _⟩
  | some p =>
    have HO : Hid (Og 3 tkC 38 w.heap.size (w.alloc (Obj.cells #[] 38)) (.slice (some ⟨w.heap.size, 0, none⟩) 0 0) []) := World.ownsRow_lit (e := 38) (size := 3) (base := w.heap.size) w #[] 0 (by omega) (by simp) (by simp)
    have HB3 : Hid (Below w.heap.size w (w.alloc (Obj.cells #[] 38))) := (Below.refl _ _).alloc (Nat.le_refl _) _
    have HR : Hid (Rg 3 tkC (w.alloc (Obj.cells #[] 38)) (.slice (some p) ls.length cap) ls) := HR0.out.below HB3.out
    obtain ⟨n, hn'⟩ : ∃ n, ls.length = n := ⟨_, rfl⟩
    have HN : Hid (ls.length = n) := hn'
    rw [hn'] at HR ⊢
    clear h3 hn HR0 hn'
    go_enter Tryd.func75, Tryd.ntmps75
    go_wp2_with (at_builtin; refine appTs rfl _ _ rfl w.heap.size _ [] rfl HO.out _ ls rfl HR.out (by have := HL.out; simp; omega) (by simp; try omega) ?_)
    intro v' w3 ho hg hb
    have HF : Hid (Og 3 tkC 38 w.heap.size w3 v' ls ∧ Below w.heap.size w w3) := ⟨by simpa using ho, HB3.out.trans (grown_below hg (by simp) (fun k e => by simp [Value.ownBlock] at e; omega))⟩
    clear ho hg hb HO HR HB3
    go_wp2
    go_ret
    exact ⟨_, rfl, HF.out.1, HF.out.2⟩
theorem int_news {w : World} {b off : Nat} {zs : List Int} (h4 : ∀ i, i < zs.length → w.cell? ⟨b, off + i, none⟩ = some (.int .i64 (zs.getD i 0))) :
    ∀ j u, (zs.map (Value.int .i64))[j]? = some u → w.cell? ((⟨b, off, none⟩ : Addr).add j) = some u := by
  intro j u hu
  have hj : j < zs.length := by have := (List.getElem?_eq_some_iff.1 hu).1; simpa using this
  rw [Addr.add_lit, h4 j hj]
  rw [List.getElem?_map, List.getElem?_eq_getElem hj] at hu
  simp [List.getElem?_eq_getElem hj] at hu ⊢
  exact hu
/-- ints put behind a row of one's own -/
theorem appIs {ops : Array Oper} {rest : List Oper} {o : Oper} {a : Act} {w : World} {Q : Exit → Act → World → Prop} (hgd : o.guard = none) (s x : Operand)
    (ho : o.op = .call { callee := .builtin .append, args := #[s, x], argTypes := #[25, 25] }) (base : Nat) (v : Value) (l0 : List Int) (hs : a.eval s = v) (hown : Ow .i64 3 base w v l0)
    (v2 : Value) (ls : List Int) (hx : a.eval x = v2) (hr : Rd .i64 w v2 ls) (hl : l0.length + ls.length ≤ 1099511627776) (hbase : base ≤ w.heap.size)
    (h : ∀ v' w', Ow .i64 3 base w' v' (l0 ++ ls) → w.grownBy w' v.ownBlock → (v'.ownBlock = v.ownBlock ∨ v'.ownBlock = some w.heap.size) → wpList Tryd.prog ops Q rest (a.put o.dst v') w') : wpList Tryd.prog ops Q (o :: rest) a w := by
  obtain ⟨i0, hi, hz0, hz1, hz2⟩ := info_parts toIInfo
  obtain ⟨av, cap, rfl, h1, h2, h3⟩ := hr
  by_cases hav : av = none
  · subst hav
    have hl0 : ls = [] := by
      rcases h3 with h3 | ⟨b, off, e, -⟩
      · exact h3
      · cases e
    subst hl0
    refine wpList_plain hgd fun K hK => ?_
    have hx' : a.eval x = .slice none 0 cap := hx
    obtain ⟨v', w', hr, q1, q2, q3⟩ : ∃ v' w', (Builtin.append_ #[25, 25] o.type #[v, .slice none 0 cap]).run Tryd.prog w = .ok v' w' ∧ Ow .i64 3 base w' v' (l0 ++ []) ∧ w.grownBy w' v.ownBlock ∧ (v'.ownBlock = v.ownBlock ∨ v'.ownBlock = some w.heap.size) := by
      refine ⟨v, w, ?_, by simpa using hown, grown_refl _ _, .inl rfl⟩
      rcases hown.2 with ⟨rfl, h0⟩ | ⟨g, cp, cur, rfl, _, _, hnc, _⟩
      · simp [Builtin.append_, run_underlying Tryd.underlying25, sizeOf, typeInfo, hi, Builtin.lenOf, Builtin.firstCells]
      · simp [Builtin.append_, run_underlying Tryd.underlying25, sizeOf, typeInfo, hi, Builtin.lenOf, Builtin.firstCells, hnc, storeCells]
    unfold Oper.wp execOp
    simp only [ho, resolve, invoke, builtin, Sem.run_bind, Sem.run_pure, Result.andThen_ok, List.map_toArray, List.map_cons, List.map_nil, hs, hx', hr]
    exact hK _ _ (h v' w' q1 q2 q3)
  · obtain ⟨ad, rfl⟩ : ∃ ad, av = some ad := by cases av with | none => exact absurd rfl hav | some ad => exact ⟨ad, rfl⟩
    refine wpList_append_own_at w hgd s x 25 ho base 3 i0 (.int .i64 0) 1 8 Tryd.underlying25 hi hz0 hz1 hz2 rfl (by decide) v l0.length (l0.map (Value.int .i64)) hs hown ad ls.length cap (ls.map (Value.int .i64)) hx (by simp) ?_ ?_ ?_ ?_ hbase ?_
    · rcases h3 with rfl | ⟨b, off, e, h4⟩
      · intro j u hu; simp at hu
      · cases e
        exact int_news h4
    · intro u hu; simp at hu; obtain ⟨q, -, rfl⟩ := hu; rfl
    · unfold maxLen; omega
    · omega
    · intro v' w' g1 g2 g3 g4
      refine h v' w' ?_ g2 g4
      rw [Ow, List.map_append, List.length_append]; exact g1
def CiR (ls : List Int) (w : World) (e : Ending) (w' : World) : Prop := ∃ v', e = .returned v' ∧ Ow .i64 3 w.heap.size w' v' ls ∧ Below w.heap.size w w'
set_option maxHeartbeats 3200000 in
theorem cloneI_c (v : Value) (ls : List Int) (w : World) (h : Rd .i64 w v ls) (hn : ls.length ≤ 1048576) : Calls Tryd.prog 76 #[v] w (CiR ls w) := by
  have HR0 : Hid (Rd .i64 w v ls) := h
  obtain ⟨a, cap, rfl, -, -, h3⟩ := h
  have HL : Hid (ls.length ≤ 1048576) := hn
  have q29 : ∀ (w : World) (a : Option Addr) (n c n' c' : Nat), (binOp .eql 25 (.slice a n c) (.slice none n' c')).run Tryd.prog w = .ok (.bool a.isNone) w := fun w a n c n' c' => Lib.run_eql_slice_nil w _ _ a n c n' c' Tryd.underlying25
  cases a with
  | none =>
    obtain rfl : ls = [] := by
      rcases h3 with h3 | ⟨b, off, h3, -⟩
      · exact h3
      · cases h3
    go_enter Tryd.func76, Tryd.ntmps76
    go_wp2
    go_ret
    exact ⟨_, rfl, ⟨rfl, .inl ⟨rfl, rfl⟩⟩, Below.refl _ _⟩
  | some p =>
    have HO : Hid (Ow .i64 3 w.heap.size (w.alloc (Obj.cells #[] 3)) (.slice (some ⟨w.heap.size, 0, none⟩) 0 0) []) := World.ownsRow_lit (e := 3) (size := 1) (base := w.heap.size) w #[] 0 (by omega) (by simp) (by simp)
    have HB3 : Hid (Below w.heap.size w (w.alloc (Obj.cells #[] 3))) := (Below.refl _ _).alloc (Nat.le_refl _) _
    have HR : Hid (Rd .i64 (w.alloc (Obj.cells #[] 3)) (.slice (some p) ls.length cap) ls) := HR0.out.below HB3.out
    obtain ⟨n, hn'⟩ : ∃ n, ls.length = n := ⟨_, rfl⟩
    have HN : Hid (ls.length = n) := hn'
    rw [hn'] at HR ⊢
    clear h3 hn HR0 hn'
    go_enter Tryd.func76, Tryd.ntmps76
    go_wp2_with (at_builtin; refine appIs rfl _ _ rfl w.heap.size _ [] rfl HO.out _ ls rfl HR.out (by have := HL.out; simp; omega) (by simp; try omega) ?_)
    intro v' w3 ho hg hb
    have HF : Hid (Ow .i64 3 w.heap.size w3 v' ls ∧ Below w.heap.size w w3) := ⟨by simpa using ho, HB3.out.trans (grown_below hg (by simp) (fun k e => by simp [Value.ownBlock] at e; omega))⟩
    clear ho hg hb HO HR HB3
    go_wp2
    go_ret
    exact ⟨_, rfl, HF.out.1, HF.out.2⟩


/-- a copy of a book -/
def CbR (ts : List Tk) (ls cs : List Int) (w : World) (e : Ending) (w' : World) : Prop := ∃ va vl vc, e = .returned (.agg (B3 va vl vc)) ∧ Obk w.heap.size w' va vl vc ts ls cs ∧ Below w.heap.size w w'
set_option maxHeartbeats 12800000 in
theorem copyBook_c (va vl vc : Value) (ts : List Tk) (ls cs : List Int) (w : World) (h : Rbk w va vl vc ts ls cs) (hta : ts.length ≤ 1048576) (hla : ls.length ≤ 1048576) (hca : cs.length ≤ 1048576) :
   Calls Tryd.prog 43 #[.agg (B3 va vl vc)] w (CbR ts ls cs w) := by
  obtain ⟨P, hP⟩ : ∃ P, w.heap.size = P := ⟨_, rfl⟩
  obtain ⟨W0, hW0⟩ : ∃ W, (w.alloc (Obj.cells (B3 va vl vc) 27)).alloc (Obj.cells (B3 (.slice none 0 0) (.slice none 0 0) (.slice none 0 0)) 27) = W := ⟨_, rfl⟩
  have HB0 : Hid (Below w.heap.size w W0) := by rw [← hW0]; exact ((Below.refl _ _).alloc (Nat.le_refl _) _).alloc (by simp) _
  have hk0 : Blk W0 P (B3 va vl vc) 27 := by rw [← hW0, ← hP]; exact (Blk.new _ _ _).alloc _
  have hk1 : Blk W0 (P + 1) (B3 (.slice none 0 0) (.slice none 0 0) (.slice none 0 0)) 27 := by rw [← hW0]; exact Blk.newAt _ (P + 1) _ 27 (by simp [hP])
  have HP : Hid (w.heap.size = P) := hP
  have HW0 : Hid (_ = W0) := hW0
  have HN : Hid (ts.length ≤ 1048576 ∧ ls.length ≤ 1048576 ∧ cs.length ≤ 1048576) := ⟨hta, hla, hca⟩
  have HR : Hid (Rbk w va vl vc ts ls cs) := h
  obtain ⟨⟨a, cap, rfl, -⟩, ⟨a', cap', rfl, -⟩, ⟨a'', cap'', rfl, -⟩⟩ := h
  obtain ⟨BK, hBK⟩ : ∃ c : Array Value, B3 (.slice a ts.length cap) (.slice a' ls.length cap') (.slice a'' cs.length cap'') = c := ⟨_, rfl⟩
  obtain ⟨S, hS⟩ : ∃ S : World → Prop, ∀ W, S W ↔ Blk W P BK 27 := ⟨_, fun _ => Iff.rfl⟩
  have x0 : ∀ W : At S, W.wd.cell? ⟨P, 0, none⟩ = some (.slice a ts.length cap) := fun W => by have := ((hS _).1 W.ok).cell 0; rw [← hBK] at this; simpa using this
  have x1 : ∀ W : At S, W.wd.cell? ⟨P, 1, none⟩ = some (.slice a' ls.length cap') := fun W => by have := ((hS _).1 W.ok).cell 1; rw [← hBK] at this; simpa using this
  have x2 : ∀ W : At S, W.wd.cell? ⟨P, 2, none⟩ = some (.slice a'' cs.length cap'') := fun W => by have := ((hS _).1 W.ok).cell 2; rw [← hBK] at this; simpa using this
  have HS : Hid (∀ W, S W ↔ Blk W P BK 27) := hS
  rw [hBK] at hk0
  obtain ⟨wd, hwd⟩ : ∃ W, W0.drew = W := ⟨_, rfl⟩
  have HK_0 : Hid (Blk wd P BK 27 ∧ Blk wd (P + 1) (B3 (.slice none 0 0) (.slice none 0 0) (.slice none 0 0)) 27) := by rw [← hwd]; exact ⟨hk0, hk1⟩
  have HB_0 : Hid (Below w.heap.size w wd) := by rw [← hwd]; exact HB0.out.drew
  have HWD : Hid (W0.drew = wd) := hwd
  have ne : Nonempty (At S) := ⟨⟨W0, (hS _).2 hk0⟩⟩
  have HFIN : Hid (∀ W V0 L0 c0 V1 L1 c1 V2 L2 c2, Below w.heap.size w W → Blk W (P + 1) (B3 (.slice none 0 0) (.slice none 0 0) (.slice none 0 0)) 27 → Og 3 tkC 38 w.heap.size W (.slice V0 L0 c0) ts → Ow .i64 3 w.heap.size W (.slice V1 L1 c1) ls → Ow .i64 3 w.heap.size W (.slice V2 L2 c2) cs → Apart (.slice V1 L1 c1) (.slice V2 L2 c2) →
      CbR ts ls cs w (.returned (.agg (B3 (.slice V0 L0 c0) (.slice V1 L1 c1) (.slice V2 L2 c2)))) (((W.setCell ⟨P + 1, 0, none⟩ (.slice V0 L0 c0)).setCell ⟨P + 1, 1, none⟩ (.slice V1 L1 c1)).setCell ⟨P + 1, 2, none⟩ (.slice V2 L2 c2))) := by
    intro W V0 L0 c0 V1 L1 c1 V2 L2 c2 hb hk o0 o1 o2 ap
    have gg : W.grownBy (((W.setCell ⟨P + 1, 0, none⟩ (.slice V0 L0 c0)).setCell ⟨P + 1, 1, none⟩ (.slice V1 L1 c1)).setCell ⟨P + 1, 2, none⟩ (.slice V2 L2 c2)) (some (P + 1)) := grown_trans (grown_trans (grown_set' _ _ _ _) (grown_set' _ _ _ _)) (grown_set' _ _ _ _)
    refine ⟨_, _, _, rfl, ⟨World.ownsRow.kept o0 gg (.inr (row_blk o0 hk (by decide))), (show Ow _ _ _ _ _ _ from World.ownsRow.kept o1 gg (.inr (row_blk o1 hk (by decide)))), (show Ow _ _ _ _ _ _ from World.ownsRow.kept o2 gg (.inr (row_blk o2 hk (by decide)))), apart_tag o0 o1 (by decide), apart_tag o0 o2 (by decide), ap⟩, ?_⟩
    exact ((hb.setCell (by have := HP.out; dsimp only; omega) _).setCell (by have := HP.out; dsimp only; omega) _).setCell (by have := HP.out; dsimp only; omega) _
  have HRD : Hid (∀ W, Below w.heap.size w W → Rbk W (.slice a ts.length cap) (.slice a' ls.length cap') (.slice a'' cs.length cap'') ts ls cs) := fun W hb => HR.out.below hb
  clear hta hla hca hP hW0 hk0 hk1 hS hBK hwd
  go_enter Tryd.func43, Tryd.ntmps43
  go_wp2
  rw [HW0.out, HP.out]
  refine region_anyS S (by kernel_rfl) ?_
  rw [HWD.out]
  refine anyS_quiet [true, true, false, true, true, false, true, true, false, false, false] 5 rfl (by kernel_rfl) (fun _ _ _ _ _ h => h) ((HS.out _).2 HK_0.out.1) ?_
  simp only [selT]
  repeat (go_big_quiet_step (fail))
  refine wpQuiet_nil ?_
  clear x0 x1 x2 ne
  refine anyS_one 2 (by kernel_rfl) rfl ?_
  go_wp2_with (fail)
  refine (cloneT_c _ ts _ (HRD.out _ HB_0.out).1 HN.out.1).mono ?_
  rintro e w1 ⟨V0, rfl, o, b⟩
  have HK_1 : Hid (Blk w1 P BK 27 ∧ Blk w1 (P + 1) (B3 (.slice none 0 0) (.slice none 0 0) (.slice none 0 0)) 27) := ⟨HK_0.out.1.below b HK_0.out.1.lt, HK_0.out.2.below b HK_0.out.2.lt⟩
  have HB_1 : Hid (Below w.heap.size w w1) := belowCall HB_0.out b HB_0.out.size
  have HR0_1 : Hid (Og 3 tkC 38 w.heap.size w1 V0 ts) := o.mono HB_0.out.size
  clear b o HK_0 HB_0
  go_wp2
  refine ⟨(HS.out _).2 HK_1.out.1, anyS_one 5 (by kernel_rfl) rfl ?_⟩
  go_wp2_with (fail)
  refine (cloneI_c _ ls _ (HRD.out _ HB_1.out).2.1 HN.out.2.1).mono ?_
  rintro e w2 ⟨V1, rfl, o, b⟩
  have HK_2 : Hid (Blk w2 P BK 27 ∧ Blk w2 (P + 1) (B3 (.slice none 0 0) (.slice none 0 0) (.slice none 0 0)) 27) := ⟨HK_1.out.1.below b HK_1.out.1.lt, HK_1.out.2.below b HK_1.out.2.lt⟩
  have HB_2 : Hid (Below w.heap.size w w2) := belowCall HB_1.out b HB_1.out.size
  have HR0_2 : Hid (Og 3 tkC 38 w.heap.size w2 V0 ts) := HR0_1.out.below b
  have HR1_2 : Hid (Ow .i64 3 w.heap.size w2 V1 ls) := o.mono HB_1.out.size
  clear b o HK_1 HB_1 HR0_1
  go_wp2
  refine ⟨(HS.out _).2 HK_2.out.1, anyS_one 8 (by kernel_rfl) rfl ?_⟩
  go_wp2_with (fail)
  refine (cloneI_c _ cs _ (HRD.out _ HB_2.out).2.2 HN.out.2.2).mono ?_
  rintro e w3 ⟨V2, rfl, o, b⟩
  have HK_3 : Hid (Blk w3 P BK 27 ∧ Blk w3 (P + 1) (B3 (.slice none 0 0) (.slice none 0 0) (.slice none 0 0)) 27) := ⟨HK_2.out.1.below b HK_2.out.1.lt, HK_2.out.2.below b HK_2.out.2.lt⟩
  have HB_3 : Hid (Below w.heap.size w w3) := belowCall HB_2.out b HB_2.out.size
  have HR0_3 : Hid (Og 3 tkC 38 w.heap.size w3 V0 ts) := HR0_2.out.below b
  have HR1_3 : Hid (Ow .i64 3 w.heap.size w3 V1 ls) := HR1_2.out.below b
  have HR2_3 : Hid (Ow .i64 3 w.heap.size w3 V2 cs) := o.mono HB_2.out.size
  have HA_3 : Hid (Apart V1 V2) := Apart.at (P := w2.heap.size) (fun k e => (World.ownsRow.lt HR1_2.out k e).2) (fun k e => (World.ownsRow.lt o k e).1)
  clear b o HK_2 HB_2 HR0_2 HR1_2
  go_wp2
  refine ⟨(HS.out _).2 HK_3.out.1, ?_⟩
  obtain ⟨y0, n0, q0, rfl⟩ : ∃ a L c, V0 = .slice a L c := by obtain ⟨a, c, e⟩ := HR0_3.out.form; exact ⟨a, _, c, e⟩
  obtain ⟨y1, n1, q1, rfl⟩ : ∃ a L c, V1 = .slice a L c := by obtain ⟨a, c, e⟩ := HR1_3.out.form; exact ⟨a, _, c, e⟩
  obtain ⟨y2, n2, q2, rfl⟩ : ∃ a L c, V2 = .slice a L c := by obtain ⟨a, c, e⟩ := HR2_3.out.form; exact ⟨a, _, c, e⟩
  refine anyS_one 9 (by kernel_rfl) rfl ?_
  go_wp2
  refine ⟨(HS.out _).2 HK_3.out.1, anyS_one 10 (by kernel_rfl) rfl ?_⟩
  have z0 := HK_3.out.2.cell 0
  have z1 := HK_3.out.2.cell 1
  have z2 := HK_3.out.2.cell 2
  simp at z0 z1 z2
  have f0 := HK_3.out.2.frozen 0
  have f1 := HK_3.out.2.frozen 1
  have f2 := HK_3.out.2.frozen 2
  have HE := HFIN.out _ _ _ _ _ _ _ _ _ _ HB_3.out HK_3.out.2 HR0_3.out HR1_3.out HR2_3.out HA_3.out
  have HEH : Hid (CbR ts ls cs w (.returned (.agg (B3 (.slice y0 n0 q0) (.slice y1 n1 q1) (.slice y2 n2 q2)))) (((w3.setCell ⟨P + 1, 0, none⟩ (.slice y0 n0 q0)).setCell ⟨P + 1, 1, none⟩ (.slice y1 n1 q1)).setCell ⟨P + 1, 2, none⟩ (.slice y2 n2 q2))) := HE
  have hbp := ((HK_3.out.1.other ⟨P + 1, 0, none⟩ (.slice y0 n0 q0) (by dsimp only; omega)).other ⟨P + 1, 1, none⟩ (.slice y1 n1 q1) (by dsimp only; omega)).other ⟨P + 1, 2, none⟩ (.slice y2 n2 q2) (by dsimp only; omega)
  have HBP : Hid (S (((w3.setCell ⟨P + 1, 0, none⟩ (.slice y0 n0 q0)).setCell ⟨P + 1, 1, none⟩ (.slice y1 n1 q1)).setCell ⟨P + 1, 2, none⟩ (.slice y2 n2 q2))) := (HS.out _).2 hbp
  have hbf : Blk (((w3.setCell ⟨P + 1, 0, none⟩ (.slice y0 n0 q0)).setCell ⟨P + 1, 1, none⟩ (.slice y1 n1 q1)).setCell ⟨P + 1, 2, none⟩ (.slice y2 n2 q2)) (P + 1) (B3 (.slice y0 n0 q0) (.slice y1 n1 q1) (.slice y2 n2 q2)) 27 := by
    have := ((HK_3.out.2.set 0 (.slice y0 n0 q0)).set 1 (.slice y1 n1 q1)).set 2 (.slice y2 n2 q2)
    simpa using this
  have HBF : Hid (Blk (((w3.setCell ⟨P + 1, 0, none⟩ (.slice y0 n0 q0)).setCell ⟨P + 1, 1, none⟩ (.slice y1 n1 q1)).setCell ⟨P + 1, 2, none⟩ (.slice y2 n2 q2)) (P + 1) (B3 (.slice y0 n0 q0) (.slice y1 n1 q1) (.slice y2 n2 q2)) 27) := hbf
  clear HE hbp hbf HK_3 HB_3 HR0_3 HR1_3 HR2_3 HA_3
  go_wp2
  refine ⟨HBP.out, anyS_end (by kernel_rfl) ?_⟩
  go_wp2
  exact bodyPost_ret (v := .agg (B3 (.slice y0 n0 q0) (.slice y1 n1 q1) (.slice y2 n2 q2))) (results_cell_row rfl _ _ _ 27 _ (0, 0) _ rfl HBF.out Tryd.underlying27 rfl sizeBk) rfl HEH.out

end Go.Proofs.YtmfmlbiplagmiaaDoor
