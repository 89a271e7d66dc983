/- The program's sendSig; no condition. -/
import Derived.Test.YtljejjfhlpjlfaaDuC
import Derived.Test.YtljejjfhlpjlfaaDOk
namespace Go.Proofs.Ytljejjfhlpjlfaa
open Go.RowKit Go.ChangeShapes Go.WideShapes Go.ChangeAt
set_option linter.unusedVariables false
set_option linter.unusedSimpArgs false
set_option maxRecDepth 8000

/-- a signal is put on the way, where there is room -/
def sendP (d : Dt) (x : Int × Int × Int) : Dt × Bool := if d.2.2.2.2.length = 40 then (d, false) else ((d.1, d.2.1, d.2.2.1, d.2.2.2.1, d.2.2.2.2 ++ [x]), true)
set_option maxHeartbeats 3200000 in
theorem sendSig_c (base : Nat) (s c s' c' : Int) (v : Value) (ls : Tri) (x y z : Int) (w : World) (h : Ot 66 base w v ls) (hbs : base ≤ w.heap.size) (hl : ls.length ≤ 40) :
    Calls Try.prog 68 #[.agg (D5 s c s' c' v), .agg (P3 x y z)] w (DuR base w v (sendP (s, c, s', c', ls) (x, y, z)).1 (sendP (s, c, s', c', ls) (x, y, z)).2) := by
  obtain ⟨W0, hW0⟩ : ∃ W0, ((w.alloc (Obj.cells (D5 s c s' c' v) 31)).alloc (Obj.cells (P3 x y z) 66)).alloc (Obj.cells (D5 0 0 0 0 (.slice none 0 0)) 31) = W0 := ⟨_, rfl⟩
  have HB : Hid (Bx w base v W0 w.heap.size (w.heap.size + 1 + 1) s c s' c' v ls) := Bx.start h (by rw [← hW0]; exact (((Below.refl _ _).alloc (Nat.le_refl _) _).alloc (by simp) _).alloc (by simp; omega) _) (by rw [← hW0]; exact ((Blk.new _ _ _).alloc _).alloc _) (by rw [← hW0]; exact Blk.newAt _ (w.heap.size + 1 + 1) _ 31 (by simp)) (Nat.le_refl _) (by omega) (by omega)
  have HX : Hid (Blk W0 (w.heap.size + 1) (P3 x y z) 66) := by rw [← hW0]; exact (Blk.newAt _ (w.heap.size + 1) _ 66 (by simp)).alloc _
  have x0 := HX.out.cell 0
  have x1 := HX.out.cell 1
  have x2 := HX.out.cell 2
  simp at x0 x1 x2
  obtain ⟨a, cap, hv, hle, hcm, hb0⟩ := own_form h
  subst hv
  clear h hle hcm hb0
  have c0 := HB.out.box.cell 0
  have cf0 := HB.out.box.frozen 0
  have c1 := HB.out.box.cell 1
  have cf1 := HB.out.box.frozen 1
  have c2 := HB.out.box.cell 2
  have cf2 := HB.out.box.frozen 2
  have c3 := HB.out.box.cell 3
  have cf3 := HB.out.box.frozen 3
  have c4 := HB.out.box.cell 4
  have cf4 := HB.out.box.frozen 4
  have r0 := HB.out.res.cell 0
  have rf0 := HB.out.res.frozen 0
  have r1 := HB.out.res.cell 1
  have rf1 := HB.out.res.frozen 1
  have r2 := HB.out.res.cell 2
  have rf2 := HB.out.res.frozen 2
  have r3 := HB.out.res.cell 3
  have rf3 := HB.out.res.frozen 3
  have r4 := HB.out.res.cell 4
  have rf4 := HB.out.res.frozen 4
  simp at c0 c1 c2 c3 c4 r0 r1 r2 r3 r4
  have cl := HB.out.box.lt
  have rl := HB.out.res.lt
  have cn := HB.out.ne
  skip
  by_cases hf : ls.length = 40
  · have HP : Hid (sendP (s, c, s', c', ls) (x, y, z) = ((s, c, s', c', ls), false)) := by show sendP _ _ = _; simp [sendP, hf]
    have HF : Hid _ := HB.out.ret
    have hfi : ((ls.length : Int) == 40) = true := by simp; omega
    have hfI : ((ls.length : Int) = 40) = True := eq_true (by omega)
    clear HB hf hl
    go_enter Try.func68, Try.ntmps68
    go_wp2
    rw [HP.out]
    exact bodyPost_ret (v := .tuple #[.agg (D5 s c s' c' (.slice a ls.length cap)), .bool false]) (results_D rfl _ _ _ _ _ _ _ _ _ rfl rfl (HF.out _ rfl).1) rfl ((HF.out _ rfl).2.1 false)
  · have HP : Hid (sendP (s, c, s', c', ls) (x, y, z) = ((s, c, s', c', ls ++ [(x, y, z)]), true)) := by show sendP _ _ = _; simp [sendP, hf]
    have hfi : ((ls.length : Int) == 40) = false := by simp; omega
    have hfI : ((ls.length : Int) = 40) = False := eq_false (by omega)
    clear hf
    have HO1 := oneSig HB.out.own x y z
    have HO : Hid (Ot 66 base (W0.alloc (Obj.cells (P3 x y z) 66)) (.slice a ls.length cap) ls) := HO1.1
    have HR1 : Hid (Rt (W0.alloc (Obj.cells (P3 x y z) 66)) (.slice (some ⟨W0.heap.size, 0, none⟩) 1 1) [(x, y, z)]) := HO1.2
    have hbs2 : base ≤ (W0.alloc (Obj.cells (P3 x y z) 66)).heap.size := by have := HB.out.gr.size; simp; omega
    have HBS : Hid _ := hbs2
    have HL : Hid (ls.length ≤ 40) := hl
    clear HO1 hbs2
    go_enter Try.func68, Try.ntmps68
    go_wp2_with (at_builtin; refine appTri rfl _ _ rfl base _ _ rfl HO.out _ _ rfl HR1.out (by have := HL.out; simp only [List.length_cons, List.length_nil]; omega) HBS.out ?_)
    intro v' w3 ho hg hb
    obtain ⟨k1, hB3⟩ := HB.out.app ho hg hb
    obtain ⟨a', cap', hv', -⟩ := own_form ho
    rw [show (ls ++ [(x, y, z)]).length = ls.length + 1 by simp] at hv'
    subst hv'
    have HB3 : Hid (Bx w base (.slice a ls.length cap) (w3.setCell ⟨w.heap.size, 4, none⟩ (.slice a' (ls.length + 1) cap')) w.heap.size (w.heap.size + 1 + 1) s c s' c' (.slice a' (ls.length + 1) cap') (ls ++ [(x, y, z)])) := hB3
    clear hW0 hB3 HB HO HR1 HBS ho hg hb x0 x1 x2 hfi hfI c0 c1 c2 c3 c4 cf0 cf1 cf2 cf3 cf4 r0 r1 r2 r3 r4 rf0 rf1 rf2 rf3 rf4 cl rl cn
    have d4 := k1.cell 4
    have e4 := k1.frozen 4
    simp at d4
    obtain ⟨W4, hW4⟩ : ∃ W, w3.setCell ⟨w.heap.size, 4, none⟩ (.slice a' (ls.length + 1) cap') = W := ⟨_, rfl⟩
    rw [hW4] at HB3
    clear k1
    have c0 := HB3.out.box.cell 0
    have cf0 := HB3.out.box.frozen 0
    have c1 := HB3.out.box.cell 1
    have cf1 := HB3.out.box.frozen 1
    have c2 := HB3.out.box.cell 2
    have cf2 := HB3.out.box.frozen 2
    have c3 := HB3.out.box.cell 3
    have cf3 := HB3.out.box.frozen 3
    have c4 := HB3.out.box.cell 4
    have cf4 := HB3.out.box.frozen 4
    have r0 := HB3.out.res.cell 0
    have rf0 := HB3.out.res.frozen 0
    have r1 := HB3.out.res.cell 1
    have rf1 := HB3.out.res.frozen 1
    have r2 := HB3.out.res.cell 2
    have rf2 := HB3.out.res.frozen 2
    have r3 := HB3.out.res.cell 3
    have rf3 := HB3.out.res.frozen 3
    have r4 := HB3.out.res.cell 4
    have rf4 := HB3.out.res.frozen 4
    simp at c0 c1 c2 c3 c4 r0 r1 r2 r3 r4
    have cl := HB3.out.box.lt
    have rl := HB3.out.res.lt
    have cn := HB3.out.ne
    skip
    have HF : Hid _ := HB3.out.ret
    clear HB3
    go_wp2
    rw [HP.out]
    exact bodyPost_ret (v := .tuple #[.agg (D5 s c s' c' (.slice a' (ls.length + 1) cap')), .bool true]) (results_D rfl _ _ _ _ _ _ _ _ _ rfl rfl (HF.out _ rfl).1) rfl ((HF.out _ rfl).2.1 true)

set_option maxHeartbeats 3200000 in
theorem sendFull_c (s c s' c' : Int) (a : Option Addr) (n cap : Nat) (x y z : Int) (w : World) (hn : n = 40) :
    Calls Try.prog 68 #[.agg (D5 s c s' c' (.slice a n cap)), .agg (P3 x y z)] w fun e w' => e = .returned (.tuple #[.agg (D5 s c s' c' (.slice a n cap)), .bool false]) ∧ Below w.heap.size w w' := by
  obtain ⟨W0, hW0⟩ : ∃ W0, ((w.alloc (Obj.cells (D5 s c s' c' (.slice a n cap)) 31)).alloc (Obj.cells (P3 x y z) 66)).alloc (Obj.cells (D5 0 0 0 0 (.slice none 0 0)) 31) = W0 := ⟨_, rfl⟩
  have kb : Below w.heap.size w W0 := by rw [← hW0]; exact (((Below.refl _ _).alloc (Nat.le_refl _) _).alloc (by simp) _).alloc (by simp; omega) _
  have k0 : Blk W0 w.heap.size (D5 s c s' c' (.slice a n cap)) 31 := by rw [← hW0]; exact ((Blk.new _ _ _).alloc _).alloc _
  have k2 : Blk W0 (w.heap.size + 1 + 1) (D5 0 0 0 0 (.slice none 0 0)) 31 := by rw [← hW0]; exact Blk.newAt _ (w.heap.size + 1 + 1) _ 31 (by simp)
  have HF : Hid (Blk (st5 W0 (w.heap.size + 1 + 1) s c s' c' (.slice a n cap)) (w.heap.size + 1 + 1) (D5 s c s' c' (.slice a n cap)) 31 ∧ Below w.heap.size w (st5 W0 (w.heap.size + 1 + 1) s c s' c' (.slice a n cap))) := ⟨put5 k2 _ _ _ _ _, kb.trans (grown_below (grown_put5 ..) (by have := kb.size; omega) (fun k e => by cases e; omega))⟩
  have c0 := k0.cell 0
  have r0 := k2.cell 0
  have f0 := k2.frozen 0
  have c1 := k0.cell 1
  have r1 := k2.cell 1
  have f1 := k2.frozen 1
  have c2 := k0.cell 2
  have r2 := k2.cell 2
  have f2 := k2.frozen 2
  have c3 := k0.cell 3
  have r3 := k2.cell 3
  have f3 := k2.frozen 3
  have c4 := k0.cell 4
  have r4 := k2.cell 4
  have f4 := k2.frozen 4
  simp at c0 c1 c2 c3 c4 r0 r1 r2 r3 r4
  have hfI : ((n : Int) = 40) = True := eq_true (by omega)
  have hfi : ((n : Int) == 40) = true := by simp; omega
  clear hn k0 k2 kb
  go_enter Try.func68, Try.ntmps68
  go_wp2
  exact bodyPost_ret (v := .tuple #[.agg (D5 s c s' c' (.slice a n cap)), .bool false]) (results_D rfl _ _ _ _ _ _ _ _ _ rfl rfl HF.out.1) rfl ⟨rfl, HF.out.2⟩
end Go.Proofs.Ytljejjfhlpjlfaa
