/- A talk entered; no condition. -/
import Derived.Test.YtmfmlbiplagmiaaDoorApn
import Derived.Test.YtmfmlbiplagmiaaDoorHfr
import Derived.Test.YtmfmlbiplagmiaaDoorMixT
import Derived.Test.YtmfmlbiplagmiaaDoorOver
namespace Go.Proofs.YtmfmlbiplagmiaaDoor
open Go.RowKit Go.ChangeShapes Go.WideShapes Go.ChangeAt
set_option linter.unusedVariables false
set_option linter.unusedSimpArgs false
set_option maxRecDepth 8000

/-- what enter leaves -/
def EnR (X base : Nat) (va vl vc : Value) (ts : List Tk) (ls cs : List Int) (t : Tk) (w : World) (e : Ending) (w' : World) : Prop :=
  ∃ va', e = .returned (.tuple #[]) ∧ Blk w' X (B3 va' vl vc) 27 ∧ Obk base w' va' vl vc (ts ++ [t]) ((ls.set t.1.toNat ts.length).set t.2.1.toNat ts.length) (if t.2.2 = -1 then cs else cs.set t.2.2.toNat ts.length) ∧ (va'.ownBlock = va.ownBlock ∨ ∃ k, va'.ownBlock = some k ∧ w.heap.size ≤ k) ∧ Fr (fun k => k = X ∨ InB va vl vc k) w w'
theorem ow_some {base : Nat} {w : World} {v : Value} {zs : List Int} (h : Ow .i64 3 base w v zs) (hp : 0 < zs.length) : ∃ b cap, v = .slice (some ⟨b, 0, none⟩) zs.length cap := by
  rcases h.2 with ⟨-, hn⟩ | ⟨b, cap, cur, e, -⟩
  · omega
  · exact ⟨b, cap, e⟩
theorem ow_at {base b cap n : Nat} {w : World} {zs : List Int} (h : Ow .i64 3 base w (.slice (some ⟨b, 0, none⟩) n cap) zs) (j : Nat) (hj : j < zs.length) : w.cell? ⟨b, j, none⟩ = some (.int .i64 zs[j]) ∧ w.frozen? ⟨b, j, none⟩ = false := by
  have hn : zs.length = n := by
    rcases h.2 with ⟨e, -⟩ | ⟨b', cap', cur, e, -⟩
    · cases e
    · cases e; rfl
  subst hn
  have hrow : w.ownsRow base 3 1 (.slice (some ⟨b, 0, none⟩) zs.length cap) zs.length (zs.map (Value.int .i64)) := h
  refine ⟨?_, hrow.frozenAt j⟩
  rw [hrow.cellAt j (by omega), List.getElem?_map, List.getElem?_eq_getElem hj]; rfl
theorem ow_put {base b cap n : Nat} {w : World} {zs : List Int} (h : Ow .i64 3 base w (.slice (some ⟨b, 0, none⟩) n cap) zs) (j : Nat) (x : Int) : Ow .i64 3 base (w.setCell ⟨b, j, none⟩ (.int .i64 x)) (.slice (some ⟨b, 0, none⟩) n cap) (zs.set j x) := by
  have hn : zs.length = n := by
    rcases h.2 with ⟨e, -⟩ | ⟨b', cap', cur, e, -⟩
    · cases e
    · cases e; rfl
  subst hn
  have hrow : w.ownsRow base 3 1 (.slice (some ⟨b, 0, none⟩) zs.length cap) zs.length (zs.map (Value.int .i64)) := h
  have := (hrow.stored j (.int .i64 x)).1
  rw [Ow, List.map_set, List.length_set]; exact this
set_option maxHeartbeats 12800000 in
theorem enter_c (X base : Nat) (va vl vc : Value) (ts : List Tk) (ls cs : List Int) (x0 x1 x2 : Int) (w : World) (hK : Blk w X (B3 va vl vc) 27) (hO : Obk base w va vl vc ts ls cs)
    (b0 : 0 ≤ x0 ∧ x0 ≤ (ls.length : Int) - 1) (b1 : 0 ≤ x1 ∧ x1 ≤ (ls.length : Int) - 1) (b2 : -1 ≤ x2 ∧ x2 ≤ (cs.length : Int) - 1) (hn : ts.length ≤ 100) (hbase : base ≤ w.heap.size) :
   Calls Tryd.prog 33 #[.pointer (some ⟨X, 0, none⟩), .agg #[.int .i64 x0, .int .i64 x1, .int .i64 x2]] w (EnR X base va vl vc ts ls cs (x0, x1, x2) w) := by
  obtain ⟨q0, rfl⟩ : ∃ q : Nat, x0 = (q : Int) := ⟨x0.toNat, by omega⟩
  obtain ⟨q1, rfl⟩ : ∃ q : Nat, x1 = (q : Int) := ⟨x1.toNat, by omega⟩
  have hp : 0 < ls.length := by omega
  obtain ⟨bl, cl, hvl⟩ := ow_some hO.2.1 hp
  subst hvl
  obtain ⟨ta, tL, tc, hva⟩ : ∃ a L c, va = .slice a L c := by obtain ⟨a, c, e⟩ := hO.1.form; exact ⟨a, _, c, e⟩
  have hTL : ts.length = tL := by obtain ⟨a, c, e⟩ := hO.1.form; rw [hva] at e; cases e; rfl
  subst hva
  obtain ⟨ca, cL, cc, hvc⟩ : ∃ a L c, vc = .slice a L c := by obtain ⟨a, c, e⟩ := hO.2.2.1.form; exact ⟨a, _, c, e⟩
  subst hvc
  subst hTL
  obtain ⟨Y, hY⟩ : ∃ Y, w.heap.size = Y := ⟨_, rfl⟩
  obtain ⟨W1, hW1⟩ : ∃ W1, w.alloc (Obj.cells #[.int .i64 (q0 : Int), .int .i64 (q1 : Int), .int .i64 x2] 38) = W1 := ⟨_, rfl⟩
  have hb : Below w.heap.size w W1 := hW1 ▸ (Below.refl _ _).alloc (Nat.le_refl _) _
  have HK1 : Hid (Blk W1 X (B3 (.slice ta ts.length tc) (.slice (some ⟨bl, 0, none⟩) ls.length cl) (.slice ca cL cc)) 27 ∧ Blk W1 Y #[.int .i64 (q0 : Int), .int .i64 (q1 : Int), .int .i64 x2] 38) := ⟨hK.below hb hK.lt, by rw [← hW1, ← hY]; exact Blk.new _ _ _⟩
  have HO1 : Hid (Obk base W1 (.slice ta ts.length tc) (.slice (some ⟨bl, 0, none⟩) ls.length cl) (.slice ca cL cc) ts ls cs) := hO.below hb
  have HF1 : Hid (Fr (fun k => k = X ∨ InB (.slice ta ts.length tc) (.slice (some ⟨bl, 0, none⟩) ls.length cl) (.slice ca cL cc) k) w W1) := Fr.ofBelow hb
  have HYS : Hid (w.heap.size = Y ∧ W1.heap.size = Y + 1 ∧ base ≤ w.heap.size ∧ X < Y) := ⟨hY, by rw [← hW1, ← hY]; simp, hbase, by rw [← hY]; exact hK.lt⟩
  have HBD : Hid ((0 ≤ (q0 : Int) ∧ (q0 : Int) ≤ (ls.length : Int) - 1) ∧ (0 ≤ (q1 : Int) ∧ (q1 : Int) ≤ (ls.length : Int) - 1) ∧ (-1 ≤ x2 ∧ x2 ≤ (cs.length : Int) - 1) ∧ ts.length ≤ 100) := ⟨b0, b1, b2, hn⟩
  have HNY : Hid ((Value.slice ta ts.length tc).ownBlock ≠ some Y) := fun e => by have := (World.ownsRow.lt hO.1 Y e).2; omega
  have HW1 : Hid (w.alloc (Obj.cells #[.int .i64 (q0 : Int), .int .i64 (q1 : Int), .int .i64 x2] 38) = W1) := hW1
  have HAP : Hid (Apart (.slice (some ⟨bl, 0, none⟩) ls.length cl) (.slice ca cL cc)) := hO.2.2.2.2.2
  have k0 := hK.cell 0
  simp at k0
  have hXl : X < w.heap.size := hK.lt
  clear hW1 hb hK hO b0 b1 b2 hn hY hp hbase
  go_enter Tryd.func33, Tryd.ntmps33
  go_wp2
  rw [HW1.out, HYS.out.1]
  clear k0 HW1 hXl
  obtain ⟨S, hS⟩ : ∃ S : World → Prop, ∀ W, S W ↔ Blk W X (B3 (.slice ta ts.length tc) (.slice (some ⟨bl, 0, none⟩) ls.length cl) (.slice ca cL cc)) 27 ∧ Blk W Y #[.int .i64 (q0 : Int), .int .i64 (q1 : Int), .int .i64 x2] 38 := ⟨_, fun _ => Iff.rfl⟩
  have k0 : ∀ W : At S, W.wd.cell? ⟨X, 0, none⟩ = some (.slice ta ts.length tc) := fun W => by have := ((hS _).1 W.ok).1.cell 0; simpa using this
  have y0 : ∀ W : At S, W.wd.cell? ⟨Y, 0, none⟩ = some (.int .i64 (q0 : Int)) := fun W => by have := ((hS _).1 W.ok).2.cell 0; simpa using this
  have y1 : ∀ W : At S, W.wd.cell? ⟨Y, 1, none⟩ = some (.int .i64 (q1 : Int)) := fun W => by have := ((hS _).1 W.ok).2.cell 1; simpa using this
  have y2 : ∀ W : At S, W.wd.cell? ⟨Y, 2, none⟩ = some (.int .i64 x2) := fun W => by have := ((hS _).1 W.ok).2.cell 2; simpa using this
  have HS : Hid (∀ W, S W ↔ Blk W X (B3 (.slice ta ts.length tc) (.slice (some ⟨bl, 0, none⟩) ls.length cl) (.slice ca cL cc)) 27 ∧ Blk W Y #[.int .i64 (q0 : Int), .int .i64 (q1 : Int), .int .i64 x2] 38) := hS
  have ne : Nonempty (At S) := ⟨⟨W1, (hS _).2 HK1.out⟩⟩
  have HKD : Hid (Blk W1.drew X (B3 (.slice ta ts.length tc) (.slice (some ⟨bl, 0, none⟩) ls.length cl) (.slice ca cL cc)) 27 ∧ Blk W1.drew Y #[.int .i64 (q0 : Int), .int .i64 (q1 : Int), .int .i64 x2] 38) := HK1.out
  have HOD : Hid (Obk base W1.drew (.slice ta ts.length tc) (.slice (some ⟨bl, 0, none⟩) ls.length cl) (.slice ca cL cc) ts ls cs) := HO1.out.below (Below.refl _ _).drew
  have HFD : Hid (Fr (fun k => k = X ∨ InB (.slice ta ts.length tc) (.slice (some ⟨bl, 0, none⟩) ls.length cl) (.slice ca cL cc) k) w W1.drew) := HF1.out.trans (Fr.ofBelow (Below.refl _ _).drew)
  have HSD : Hid (W1.drew.heap.size = Y + 1) := HYS.out.2.1
  clear hS HK1 HO1 HF1
  refine region_mixT [true, true, true, true, true, true, false, false, false, false, false] 10 4 S (by kernel_rfl) rfl (by kernel_rfl) (fun _ _ _ _ _ h => h) ((HS.out _).2 HKD.out) ?_
  simp only [selT, selF]
  try simp only [Act.put]
  repeat (go_big_quiet_step (fail))
  refine wpQuiet_nil ?_
  clear k0 y0 y1 y2 ne
  obtain ⟨wd, hwd⟩ : ∃ W, W1.drew = W := ⟨_, rfl⟩
  rw [hwd] at HKD HOD HFD HSD ⊢
  clear hwd
  refine tail_step ?_
  go_wp2
  obtain ⟨W2, hW2⟩ : ∃ W, wd.alloc (Obj.cells #[.int .i64 (q0 : Int), .int .i64 (q1 : Int), .int .i64 x2] 38) = W := ⟨_, rfl⟩
  rw [hW2]
  have ba : Below wd.heap.size wd W2 := by rw [← hW2]; exact (Below.refl _ _).alloc (Nat.le_refl _) _
  have HC2 : Hid (Blk W2 wd.heap.size #[.int .i64 (q0 : Int), .int .i64 (q1 : Int), .int .i64 x2] 38) := by show Blk _ _ _ _; rw [← hW2]; exact Blk.new _ _ _
  have HK2 : Hid (Blk W2 X (B3 (.slice ta ts.length tc) (.slice (some ⟨bl, 0, none⟩) ls.length cl) (.slice ca cL cc)) 27 ∧ Blk W2 Y #[.int .i64 (q0 : Int), .int .i64 (q1 : Int), .int .i64 x2] 38) := ⟨HKD.out.1.below ba HKD.out.1.lt, HKD.out.2.below ba HKD.out.2.lt⟩
  have HO2 : Hid (Obk base W2 (.slice ta ts.length tc) (.slice (some ⟨bl, 0, none⟩) ls.length cl) (.slice ca cL cc) ts ls cs) := HOD.out.below ba
  have HF2 : Hid (Fr (fun k => k = X ∨ InB (.slice ta ts.length tc) (.slice (some ⟨bl, 0, none⟩) ls.length cl) (.slice ca cL cc) k) w W2) := HFD.out.trans (Fr.ofBelow ba)
  have HS2 : Hid (base ≤ W2.heap.size ∧ w.heap.size ≤ W2.heap.size) := ⟨Nat.le_trans HYS.out.2.2.1 HF2.out.size, HF2.out.size⟩
  clear ba hW2 HKD HOD HFD HSD
  refine ⟨(HS.out _).2 HK2.out, tail_step ?_⟩
  go_wp2_with (at_builtin; refine appT rfl _ _ rfl base _ ts rfl HO2.out.1 wd.heap.size ((q0 : Int), (q1 : Int), x2) rfl HC2.out (by have := HBD.out; omega) HS2.out.1 ?_)
  intro V3 w3 o3 g3 p3
  obtain ⟨a3, L3, c3, rfl⟩ : ∃ a L c, V3 = .slice a L c := by obtain ⟨a, c, e⟩ := o3.form; exact ⟨a, _, c, e⟩
  have HK3 : Hid (Blk w3 X (B3 (.slice ta ts.length tc) (.slice (some ⟨bl, 0, none⟩) ls.length cl) (.slice ca cL cc)) 27 ∧ Blk w3 Y #[.int .i64 (q0 : Int), .int .i64 (q1 : Int), .int .i64 x2] 38) := by
    exact ⟨HK2.out.1.grown g3 (row_blk HO2.out.1 HK2.out.1 (by decide)), HK2.out.2.grown g3 fun e => HNY.out e⟩
  have HT3 : Hid (Og 3 tkC 38 base w3 (.slice a3 L3 c3) (ts ++ [((q0 : Int), (q1 : Int), x2)])) := o3
  have HL3 : Hid (Ow .i64 3 base w3 (.slice (some ⟨bl, 0, none⟩) ls.length cl) ls) := World.ownsRow.kept HO2.out.2.1 g3 HO2.out.2.2.2.1.symm.or
  have HC3 : Hid (Ow .i64 3 base w3 (.slice ca cL cc) cs) := World.ownsRow.kept HO2.out.2.2.1 g3 HO2.out.2.2.2.2.1.symm.or
  have HF3 : Hid (Fr (fun k => k = X ∨ InB (.slice ta ts.length tc) (.slice (some ⟨bl, 0, none⟩) ls.length cl) (.slice ca cL cc) k) w w3) := HF2.out.trans (Fr.ofGrown g3 (fun k e => .inr (.inl e)))
  have HV3 : Hid ((Value.slice a3 L3 c3).ownBlock = (Value.slice ta ts.length tc).ownBlock ∨ ∃ k, (Value.slice a3 L3 c3).ownBlock = some k ∧ w.heap.size ≤ k) := by
    rcases p3 with h | h
    · exact .inl h
    · exact .inr ⟨_, h, HS2.out.2⟩
  clear o3 g3 p3 HK2 HC2 HO2 HF2 HS2
  go_wp2
  refine ⟨(HS.out _).2 HK3.out, tail_step ?_⟩
  go_wp2
  refine ⟨(HS.out _).2 HK3.out, tail_step ?_⟩
  go_wp2
  refine ⟨(HS.out _).2 HK3.out, tail_end ?_⟩
  have z0 := HK3.out.1.cell 0
  simp at z0
  have f0 := HK3.out.1.frozen 0
  obtain ⟨W4, hW4⟩ : ∃ W, w3.setCell ⟨X, 0, none⟩ (.slice a3 L3 c3) = W := ⟨_, rfl⟩
  have gX : w3.grownBy W4 (some X) := by rw [← hW4]; exact grown_set' _ _ _ _
  have HK4 : Hid (Blk W4 X (B3 (.slice a3 L3 c3) (.slice (some ⟨bl, 0, none⟩) ls.length cl) (.slice ca cL cc)) 27 ∧ Blk W4 Y #[.int .i64 (q0 : Int), .int .i64 (q1 : Int), .int .i64 x2] 38) := ⟨by rw [← hW4]; have := HK3.out.1.set 0 (.slice a3 L3 c3); simpa using this, by rw [← hW4]; exact HK3.out.2.other _ _ (by have := HYS.out; dsimp only; omega)⟩
  have HT4 : Hid (Og 3 tkC 38 base W4 (.slice a3 L3 c3) (ts ++ [((q0 : Int), (q1 : Int), x2)])) := World.ownsRow.kept HT3.out gX (.inr (row_blk HT3.out HK3.out.1 (by decide)))
  have HL4 : Hid (Ow .i64 3 base W4 (.slice (some ⟨bl, 0, none⟩) ls.length cl) ls) := World.ownsRow.kept HL3.out gX (.inr (row_blk HL3.out HK3.out.1 (by decide)))
  have HC4 : Hid (Ow .i64 3 base W4 (.slice ca cL cc) cs) := World.ownsRow.kept HC3.out gX (.inr (row_blk HC3.out HK3.out.1 (by decide)))
  have HF4 : Hid (Fr (fun k => k = X ∨ InB (.slice ta ts.length tc) (.slice (some ⟨bl, 0, none⟩) ls.length cl) (.slice ca cL cc) k) w W4) := HF3.out.trans (Fr.ofGrown gX (fun k e => .inl (by cases e; rfl)))
  have HW4 : Hid (w3.setCell ⟨X, 0, none⟩ (.slice a3 L3 c3) = W4) := hW4
  clear hW4 gX HK3 HT3 HL3 HC3 HF3 HS
  go_wp2
  rw [HW4.out]
  clear z0 f0 HW4
  obtain ⟨S, hS⟩ : ∃ S : World → Prop, ∀ W, S W ↔ Blk W X (B3 (.slice a3 L3 c3) (.slice (some ⟨bl, 0, none⟩) ls.length cl) (.slice ca cL cc)) 27 ∧ Blk W Y #[.int .i64 (q0 : Int), .int .i64 (q1 : Int), .int .i64 x2] 38 := ⟨_, fun _ => Iff.rfl⟩
  have k1 : ∀ W : At S, W.wd.cell? ⟨X, 1, none⟩ = some (.slice (some ⟨bl, 0, none⟩) ls.length cl) := fun W => by have := ((hS _).1 W.ok).1.cell 1; simpa using this
  have y1 : ∀ W : At S, W.wd.cell? ⟨Y, 0, none⟩ = some (.int .i64 (q0 : Int)) := fun W => by have := ((hS _).1 W.ok).2.cell 0; simpa using this
  have ne : Nonempty (At S) := ⟨⟨W4, (hS _).2 HK4.out⟩⟩
  have HSD4 : Hid (S W4.drew) := (hS _).2 HK4.out
  have hcf := ow_at HL4.out q0 (by rw [show (ls).length = ls.length by simp]; have := HBD.out; omega)
  obtain ⟨zv, hzv⟩ : ∃ z, (ls)[q0]'(by rw [show (ls).length = ls.length by simp]; have := HBD.out; omega) = z := ⟨_, rfl⟩
  rw [hzv] at hcf
  have hcd : W4.drew.cell? ⟨bl, q0, none⟩ = some (.int .i64 zv) := hcf.1
  have hfd : W4.drew.frozen? ⟨bl, q0, none⟩ = false := hcf.2
  have hi0 : (0 : Int) ≤ (q0 : Int) := by omega
  have hi1 : (q0 : Int) < (ls.length : Int) := by have := HBD.out; omega
  have HWD : Hid (Blk W4.drew X (B3 (.slice a3 L3 c3) (.slice (some ⟨bl, 0, none⟩) ls.length cl) (.slice ca cL cc)) 27 ∧ Blk W4.drew Y #[.int .i64 (q0 : Int), .int .i64 (q1 : Int), .int .i64 x2] 38) := HK4.out
  have HTD : Hid (Og 3 tkC 38 base W4.drew (.slice a3 L3 c3) (ts ++ [((q0 : Int), (q1 : Int), x2)])) := HT4.out.below (Below.refl _ _).drew
  have HLD : Hid (Ow .i64 3 base W4.drew (.slice (some ⟨bl, 0, none⟩) ls.length cl) (ls)) := HL4.out.below (Below.refl _ _).drew
  have HCD : Hid (Ow .i64 3 base W4.drew (.slice ca cL cc) (cs)) := HC4.out.below (Below.refl _ _).drew
  have HFD : Hid (Fr (fun k => k = X ∨ InB (.slice ta ts.length tc) (.slice (some ⟨bl, 0, none⟩) ls.length cl) (.slice ca cL cc) k) w W4.drew) := HF4.out.trans (Fr.ofBelow (Below.refl _ _).drew)
  clear hS hzv hcf HK4 HT4 HL4 HC4 HF4
  refine region_mixT [true, true, true, true, true, true, true, false, false] 8 1 S (by kernel_rfl) rfl (by kernel_rfl) (fun _ _ _ _ _ h => h) HSD4.out ?_
  simp only [selT, selF]
  try simp only [Act.put]
  repeat (go_big_quiet_step (fail))
  refine wpQuiet_nil ?_
  clear k1 y1 ne
  obtain ⟨wd4, hwd⟩ : ∃ W, W4.drew = W := ⟨_, rfl⟩
  rw [hwd] at HSD4 hcd hfd HWD HTD HLD HCD HFD ⊢
  clear hwd
  refine tail_step ?_
  go_wp2
  refine ⟨HSD4.out, tail_end ?_⟩
  obtain ⟨W5, hWN⟩ : ∃ W, wd4.setCell ⟨bl, q0, none⟩ (.int .i64 (ts.length : Int)) = W := ⟨_, rfl⟩
  have gX : wd4.grownBy W5 (some bl) := by rw [← hWN]; exact grown_set' _ _ _ _
  have HK5 : Hid (Blk W5 X (B3 (.slice a3 L3 c3) (.slice (some ⟨bl, 0, none⟩) ls.length cl) (.slice ca cL cc)) 27 ∧ Blk W5 Y #[.int .i64 (q0 : Int), .int .i64 (q1 : Int), .int .i64 x2] 38) := ⟨HWD.out.1.grown gX (row_blk HLD.out HWD.out.1 (by decide)), HWD.out.2.grown gX (row_blk HLD.out HWD.out.2 (by decide))⟩
  have HT5 : Hid (Og 3 tkC 38 base W5 (.slice a3 L3 c3) (ts ++ [((q0 : Int), (q1 : Int), x2)])) := World.ownsRow.kept HTD.out gX (own_tag HTD.out HLD.out (by decide))
  have HL5 : Hid (Ow .i64 3 base W5 (.slice (some ⟨bl, 0, none⟩) ls.length cl) (ls.set q0 (ts.length : Int))) := by show Ow _ _ _ _ _ _; rw [← hWN]; exact ow_put HLD.out q0 _
  have HC5 : Hid (Ow .i64 3 base W5 (.slice ca cL cc) (cs)) := World.ownsRow.kept HCD.out gX HAP.out.symm.or
  have HF5 : Hid (Fr (fun k => k = X ∨ InB (.slice ta ts.length tc) (.slice (some ⟨bl, 0, none⟩) ls.length cl) (.slice ca cL cc) k) w W5) := HFD.out.trans (Fr.ofGrown gX (fun k e => .inr (.inr (.inl (by cases e; rfl)))))
  have HWN : Hid (wd4.setCell ⟨bl, q0, none⟩ (.int .i64 (ts.length : Int)) = W5) := hWN
  clear hWN gX HWD HTD HLD HCD HFD HSD4
  go_wp2
  rw [HWN.out]
  clear HWN hcd hfd hi0 hi1
  obtain ⟨S, hS⟩ : ∃ S : World → Prop, ∀ W, S W ↔ Blk W X (B3 (.slice a3 L3 c3) (.slice (some ⟨bl, 0, none⟩) ls.length cl) (.slice ca cL cc)) 27 ∧ Blk W Y #[.int .i64 (q0 : Int), .int .i64 (q1 : Int), .int .i64 x2] 38 := ⟨_, fun _ => Iff.rfl⟩
  have k1 : ∀ W : At S, W.wd.cell? ⟨X, 1, none⟩ = some (.slice (some ⟨bl, 0, none⟩) ls.length cl) := fun W => by have := ((hS _).1 W.ok).1.cell 1; simpa using this
  have y1 : ∀ W : At S, W.wd.cell? ⟨Y, 1, none⟩ = some (.int .i64 (q1 : Int)) := fun W => by have := ((hS _).1 W.ok).2.cell 1; simpa using this
  have ne : Nonempty (At S) := ⟨⟨W5, (hS _).2 HK5.out⟩⟩
  have HSD5 : Hid (S W5.drew) := (hS _).2 HK5.out
  have hcf := ow_at HL5.out q1 (by rw [show (ls.set q0 (ts.length : Int)).length = ls.length by simp]; have := HBD.out; omega)
  obtain ⟨zv, hzv⟩ : ∃ z, (ls.set q0 (ts.length : Int))[q1]'(by rw [show (ls.set q0 (ts.length : Int)).length = ls.length by simp]; have := HBD.out; omega) = z := ⟨_, rfl⟩
  rw [hzv] at hcf
  have hcd : W5.drew.cell? ⟨bl, q1, none⟩ = some (.int .i64 zv) := hcf.1
  have hfd : W5.drew.frozen? ⟨bl, q1, none⟩ = false := hcf.2
  have hi0 : (0 : Int) ≤ (q1 : Int) := by omega
  have hi1 : (q1 : Int) < (ls.length : Int) := by have := HBD.out; omega
  have HWD : Hid (Blk W5.drew X (B3 (.slice a3 L3 c3) (.slice (some ⟨bl, 0, none⟩) ls.length cl) (.slice ca cL cc)) 27 ∧ Blk W5.drew Y #[.int .i64 (q0 : Int), .int .i64 (q1 : Int), .int .i64 x2] 38) := HK5.out
  have HTD : Hid (Og 3 tkC 38 base W5.drew (.slice a3 L3 c3) (ts ++ [((q0 : Int), (q1 : Int), x2)])) := HT5.out.below (Below.refl _ _).drew
  have HLD : Hid (Ow .i64 3 base W5.drew (.slice (some ⟨bl, 0, none⟩) ls.length cl) (ls.set q0 (ts.length : Int))) := HL5.out.below (Below.refl _ _).drew
  have HCD : Hid (Ow .i64 3 base W5.drew (.slice ca cL cc) (cs)) := HC5.out.below (Below.refl _ _).drew
  have HFD : Hid (Fr (fun k => k = X ∨ InB (.slice ta ts.length tc) (.slice (some ⟨bl, 0, none⟩) ls.length cl) (.slice ca cL cc) k) w W5.drew) := HF5.out.trans (Fr.ofBelow (Below.refl _ _).drew)
  clear hS hzv hcf HK5 HT5 HL5 HC5 HF5
  refine region_mixT [true, true, true, true, true, true, true, false, false] 8 1 S (by kernel_rfl) rfl (by kernel_rfl) (fun _ _ _ _ _ h => h) HSD5.out ?_
  simp only [selT, selF]
  try simp only [Act.put]
  repeat (go_big_quiet_step (fail))
  refine wpQuiet_nil ?_
  clear k1 y1 ne
  obtain ⟨wd5, hwd⟩ : ∃ W, W5.drew = W := ⟨_, rfl⟩
  rw [hwd] at HSD5 hcd hfd HWD HTD HLD HCD HFD ⊢
  clear hwd
  refine tail_step ?_
  go_wp2
  refine ⟨HSD5.out, tail_end ?_⟩
  obtain ⟨W6, hWN⟩ : ∃ W, wd5.setCell ⟨bl, q1, none⟩ (.int .i64 (ts.length : Int)) = W := ⟨_, rfl⟩
  have gX : wd5.grownBy W6 (some bl) := by rw [← hWN]; exact grown_set' _ _ _ _
  have HK6 : Hid (Blk W6 X (B3 (.slice a3 L3 c3) (.slice (some ⟨bl, 0, none⟩) ls.length cl) (.slice ca cL cc)) 27 ∧ Blk W6 Y #[.int .i64 (q0 : Int), .int .i64 (q1 : Int), .int .i64 x2] 38) := ⟨HWD.out.1.grown gX (row_blk HLD.out HWD.out.1 (by decide)), HWD.out.2.grown gX (row_blk HLD.out HWD.out.2 (by decide))⟩
  have HT6 : Hid (Og 3 tkC 38 base W6 (.slice a3 L3 c3) (ts ++ [((q0 : Int), (q1 : Int), x2)])) := World.ownsRow.kept HTD.out gX (own_tag HTD.out HLD.out (by decide))
  have HL6 : Hid (Ow .i64 3 base W6 (.slice (some ⟨bl, 0, none⟩) ls.length cl) ((ls.set q0 (ts.length : Int)).set q1 (ts.length : Int))) := by show Ow _ _ _ _ _ _; rw [← hWN]; exact ow_put HLD.out q1 _
  have HC6 : Hid (Ow .i64 3 base W6 (.slice ca cL cc) (cs)) := World.ownsRow.kept HCD.out gX HAP.out.symm.or
  have HF6 : Hid (Fr (fun k => k = X ∨ InB (.slice ta ts.length tc) (.slice (some ⟨bl, 0, none⟩) ls.length cl) (.slice ca cL cc) k) w W6) := HFD.out.trans (Fr.ofGrown gX (fun k e => .inr (.inr (.inl (by cases e; rfl)))))
  have HWN : Hid (wd5.setCell ⟨bl, q1, none⟩ (.int .i64 (ts.length : Int)) = W6) := hWN
  have yy : wd5.cell? ⟨Y, 2, none⟩ = some (.int .i64 x2) := by have := HWD.out.2.cell 2; simpa using this
  have yn : ¬ Y = bl := fun e => row_blk HLD.out HWD.out.2 (by decide) (by rw [e]; rfl)
  have yn2 : ¬ bl = Y := fun e => yn e.symm
  have yw : (wd5.setCell ⟨bl, q1, none⟩ (.int .i64 (ts.length : Int))).cell? ⟨Y, 2, none⟩ = some (.int .i64 x2) := by rw [hWN]; have := HK6.out.2.cell 2; simpa using this
  clear hWN gX HWD HTD HLD HCD HFD HSD5
  by_cases hx : x2 = -1
  case pos =>
    subst hx
    have hne : ((-1 : Int) != -1) = false := rfl
    have HFIN : Hid (EnR X base (.slice ta ts.length tc) (.slice (some ⟨bl, 0, none⟩) ls.length cl) (.slice ca cL cc) ts ls cs ((q0 : Int), (q1 : Int), -1) w (.returned (.tuple #[])) W6) := ⟨_, rfl, HK6.out.1, ⟨HT6.out, by show Ow _ _ _ _ _ _; have := HL6.out; simpa using this, by show Ow _ _ _ _ _ _; rw [if_pos rfl]; exact HC6.out, apart_tag HT6.out HL6.out (by decide), apart_tag HT6.out HC6.out (by decide), HAP.out⟩, HV3.out, HF6.out⟩
    clear HK6 HT6 HL6 HC6 HF6
    go_wp2
    rw [HWN.out]
    go_end0
    exact HFIN.out
  case neg =>
  obtain ⟨q2, hq2⟩ : ∃ q : Nat, x2 = (q : Int) := ⟨x2.toNat, by have := HBD.out; omega⟩
  subst hq2
  have hcp : 0 < cs.length := by have := HBD.out; omega
  have HBC : Hid (q2 < cs.length) := by have := HBD.out; show q2 < _; omega
  obtain ⟨bc, cc', hvc⟩ := ow_some HC6.out hcp
  cases hvc
  have hne : ((q2 : Int) != -1) = true := bne_iff_ne.2 (by omega)
  have HXM : Hid (¬ (q2 : Int) = -1) := hx
  clear hx hcp
  go_wp2
  rw [HWN.out]
  clear hne HWN hcd hfd hi0 hi1 yy yn yn2 yw
  obtain ⟨S, hS⟩ : ∃ S : World → Prop, ∀ W, S W ↔ Blk W X (B3 (.slice a3 L3 c3) (.slice (some ⟨bl, 0, none⟩) ls.length cl) (.slice (some ⟨bc, 0, none⟩) cs.length cc)) 27 ∧ Blk W Y #[.int .i64 (q0 : Int), .int .i64 (q1 : Int), .int .i64 (q2 : Int)] 38 := ⟨_, fun _ => Iff.rfl⟩
  have k1 : ∀ W : At S, W.wd.cell? ⟨X, 2, none⟩ = some (.slice (some ⟨bc, 0, none⟩) cs.length cc) := fun W => by have := ((hS _).1 W.ok).1.cell 2; simpa using this
  have y1 : ∀ W : At S, W.wd.cell? ⟨Y, 2, none⟩ = some (.int .i64 (q2 : Int)) := fun W => by have := ((hS _).1 W.ok).2.cell 2; simpa using this
  have ne : Nonempty (At S) := ⟨⟨W6, (hS _).2 HK6.out⟩⟩
  have HSD6 : Hid (S W6.drew) := (hS _).2 HK6.out
  have hcf := ow_at HC6.out q2 (by rw [show (cs).length = cs.length by simp]; exact HBC.out)
  obtain ⟨zv, hzv⟩ : ∃ z, (cs)[q2]'(by rw [show (cs).length = cs.length by simp]; exact HBC.out) = z := ⟨_, rfl⟩
  rw [hzv] at hcf
  have hcd : W6.drew.cell? ⟨bc, q2, none⟩ = some (.int .i64 zv) := hcf.1
  have hfd : W6.drew.frozen? ⟨bc, q2, none⟩ = false := hcf.2
  have hi0 : (0 : Int) ≤ (q2 : Int) := by omega
  have hi1 : (q2 : Int) < (cs.length : Int) := by have := HBC.out; omega
  have HWD : Hid (Blk W6.drew X (B3 (.slice a3 L3 c3) (.slice (some ⟨bl, 0, none⟩) ls.length cl) (.slice (some ⟨bc, 0, none⟩) cs.length cc)) 27 ∧ Blk W6.drew Y #[.int .i64 (q0 : Int), .int .i64 (q1 : Int), .int .i64 (q2 : Int)] 38) := HK6.out
  have HTD : Hid (Og 3 tkC 38 base W6.drew (.slice a3 L3 c3) (ts ++ [((q0 : Int), (q1 : Int), (q2 : Int))])) := HT6.out.below (Below.refl _ _).drew
  have HLD : Hid (Ow .i64 3 base W6.drew (.slice (some ⟨bl, 0, none⟩) ls.length cl) ((ls.set q0 (ts.length : Int)).set q1 (ts.length : Int))) := HL6.out.below (Below.refl _ _).drew
  have HCD : Hid (Ow .i64 3 base W6.drew (.slice (some ⟨bc, 0, none⟩) cs.length cc) (cs)) := HC6.out.below (Below.refl _ _).drew
  have HFD : Hid (Fr (fun k => k = X ∨ InB (.slice ta ts.length tc) (.slice (some ⟨bl, 0, none⟩) ls.length cl) (.slice (some ⟨bc, 0, none⟩) cs.length cc) k) w W6.drew) := HF6.out.trans (Fr.ofBelow (Below.refl _ _).drew)
  clear hS hzv hcf HK6 HT6 HL6 HC6 HF6
  refine region_mixT [true, true, true, true, true, true, true, false, false] 8 1 S (by kernel_rfl) rfl (by kernel_rfl) (fun _ _ _ _ _ h => h) HSD6.out ?_
  simp only [selT, selF]
  try simp only [Act.put]
  repeat (go_big_quiet_step (fail))
  refine wpQuiet_nil ?_
  clear k1 y1 ne
  obtain ⟨wd6, hwd⟩ : ∃ W, W6.drew = W := ⟨_, rfl⟩
  rw [hwd] at HSD6 hcd hfd HWD HTD HLD HCD HFD ⊢
  clear hwd
  refine tail_step ?_
  go_wp2
  refine ⟨HSD6.out, tail_end ?_⟩
  obtain ⟨W7, hWN⟩ : ∃ W, wd6.setCell ⟨bc, q2, none⟩ (.int .i64 (ts.length : Int)) = W := ⟨_, rfl⟩
  have gX : wd6.grownBy W7 (some bc) := by rw [← hWN]; exact grown_set' _ _ _ _
  have HK7 : Hid (Blk W7 X (B3 (.slice a3 L3 c3) (.slice (some ⟨bl, 0, none⟩) ls.length cl) (.slice (some ⟨bc, 0, none⟩) cs.length cc)) 27 ∧ Blk W7 Y #[.int .i64 (q0 : Int), .int .i64 (q1 : Int), .int .i64 (q2 : Int)] 38) := ⟨HWD.out.1.grown gX (row_blk HCD.out HWD.out.1 (by decide)), HWD.out.2.grown gX (row_blk HCD.out HWD.out.2 (by decide))⟩
  have HT7 : Hid (Og 3 tkC 38 base W7 (.slice a3 L3 c3) (ts ++ [((q0 : Int), (q1 : Int), (q2 : Int))])) := World.ownsRow.kept HTD.out gX (own_tag HTD.out HCD.out (by decide))
  have HL7 : Hid (Ow .i64 3 base W7 (.slice (some ⟨bl, 0, none⟩) ls.length cl) ((ls.set q0 (ts.length : Int)).set q1 (ts.length : Int))) := World.ownsRow.kept HLD.out gX HAP.out.or
  have HC7 : Hid (Ow .i64 3 base W7 (.slice (some ⟨bc, 0, none⟩) cs.length cc) (cs.set q2 (ts.length : Int))) := by show Ow _ _ _ _ _ _; rw [← hWN]; exact ow_put HCD.out q2 _
  have HF7 : Hid (Fr (fun k => k = X ∨ InB (.slice ta ts.length tc) (.slice (some ⟨bl, 0, none⟩) ls.length cl) (.slice (some ⟨bc, 0, none⟩) cs.length cc) k) w W7) := HFD.out.trans (Fr.ofGrown gX (fun k e => .inr (.inr (.inr (by cases e; rfl)))))
  have HWN : Hid (wd6.setCell ⟨bc, q2, none⟩ (.int .i64 (ts.length : Int)) = W7) := hWN
  clear hWN gX HWD HTD HLD HCD HFD HSD6
  go_wp2
  rw [HWN.out]
  clear HWN hcd hfd hi0 hi1
  have HFIN : Hid (EnR X base (.slice ta ts.length tc) (.slice (some ⟨bl, 0, none⟩) ls.length cl) (.slice (some ⟨bc, 0, none⟩) cs.length cc) ts ls cs ((q0 : Int), (q1 : Int), (q2 : Int)) w (.returned (.tuple #[])) W7) := ⟨_, rfl, HK7.out.1, ⟨HT7.out, by show Ow _ _ _ _ _ _; have := HL7.out; simpa using this, by show Ow _ _ _ _ _ _; rw [if_neg HXM.out]; have := HC7.out; simpa using this, apart_tag HT7.out HL7.out (by decide), apart_tag HT7.out HC7.out (by decide), HAP.out⟩, HV3.out, HF7.out⟩
  clear HK7 HT7 HL7 HC7 HF7
  go_wp2
  go_end0
  exact HFIN.out

end Go.Proofs.YtmfmlbiplagmiaaDoor
