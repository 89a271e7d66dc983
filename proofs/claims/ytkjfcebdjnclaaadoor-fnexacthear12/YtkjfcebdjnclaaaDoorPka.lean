/- Packets; no condition. -/
import Derived.Test.YtkjfcebdjnclaaaDoorFra
namespace Go.Proofs.YtkjfcebdjnclaaaDoor
open Go.RowKit Go.ChangeShapes Go.WideShapes Go.ChangeAt
set_option linter.unusedVariables false
set_option linter.unusedSimpArgs false
set_option maxRecDepth 8000

/-- a packet: its tick, its number, the sixteen bytes of its frame -/
structure Pk where
  t : Int
  s : Int
  f : Nat → Int
abbrev pkC : Pk → List Value := fun k => .int .i64 k.t :: .int .i64 k.s :: frF k.f
abbrev pkA (k : Pk) : Array Value := (pkC k).toArray
theorem pkC_len (k : Pk) : (pkC k).length = 18 := by simp [frF_len]
theorem pkA_size (k : Pk) : (pkA k).size = 18 := by simp [frF_len]
theorem pkC_one' (k : Pk) : ∀ u ∈ pkC k, u.oneCell' = true := by
  intro u hu
  simp only [pkC, List.mem_cons] at hu
  rcases hu with rfl | rfl | hu
  · rfl
  · rfl
  · exact frF_one _ u hu
theorem pkC_one {ls : List Pk} : ∀ u ∈ ls.flatMap pkC, u.oneCell' = true := by
  intro u hu
  obtain ⟨x, -, hx⟩ := List.mem_flatMap.1 hu
  exact pkC_one' x u hx
theorem sizePk : (Tryd.prog.info? 40).map (·.size) = some 18 := by kernel_rfl
theorem sizeLp : (Tryd.prog.info? 105).map (·.size) = some 18 := by kernel_rfl
def zPk : Pk := ⟨0, 0, fun _ => 0⟩
theorem zPkA : pkA zPk = #[.int .i64 0, .int .i64 0, .int .u8 0, .int .u8 0, .int .u8 0, .int .u8 0, .int .u8 0, .int .u8 0, .int .u8 0, .int .u8 0, .int .u8 0, .int .u8 0, .int .u8 0, .int .u8 0, .int .u8 0, .int .u8 0, .int .u8 0, .int .u8 0] := rfl
theorem infoPk : (Tryd.prog.info? 40).map (fun i => (i.zero, i.size, i.bytes)) = some (some (.agg (pkA zPk)), 18, 32) := by kernel_rfl
theorem pk_cell0 {w : World} {g : Nat} {k : Pk} {t : TypeId} (h : Blk w g (pkA k) t) : w.cell? ⟨g, 0, none⟩ = some (.int .i64 k.t) := by rw [h.cell]; simp
theorem pk_cell1 {w : World} {g : Nat} {k : Pk} {t : TypeId} (h : Blk w g (pkA k) t) : w.cell? ⟨g, 1, none⟩ = some (.int .i64 k.s) := by rw [h.cell]; simp
theorem pk_range {w : World} {g : Nat} {k : Pk} {t : TypeId} (h : Blk w g (pkA k) t) : w.rangeAt g 2 (frF k.f) := by
  intro j v hv
  rw [h.cell]
  simp only [List.getElem?_toArray, pkC]
  rw [show 2 + j = j + 1 + 1 by omega, List.getElem?_cons_succ, List.getElem?_cons_succ]; exact hv
theorem setL_mid : ∀ (vs A B C : List Value), B.length = vs.length → setL (A ++ B ++ C) A.length vs = A ++ vs ++ C
  | [], A, B, C, h => by
    have : B = [] := List.eq_nil_of_length_eq_zero (by simpa using h)
    subst this; simp [setL]
  | v :: r, A, b :: B, C, h => by
    rw [setL]
    have e : (A ++ b :: B ++ C).set A.length v = (A ++ [v]) ++ B ++ C := by simp [List.set_append]
    rw [e, show A.length + 1 = (A ++ [v]).length by simp, setL_mid r (A ++ [v]) B C (by simpa using h)]
    simp
  | v :: r, A, [], C, h => by simp at h
theorem Blk.setCells {t : TypeId} {g : Nat} : ∀ (vs : List Value) (o : Nat) {w : World} {l : List Value}, Blk w g l.toArray t → Blk (w.setCells g o vs) g (setL l o vs).toArray t
  | [], _, _, _, h => h
  | v :: r, o, w, l, h => by
    have h1 := h.set o v
    rw [List.setIfInBounds_toArray] at h1
    exact Blk.setCells r (o + 1) h1
theorem Blk.setCellsO {t : TypeId} {g k : Nat} (hne : k ≠ g) {cs : Array Value} : ∀ (vs : List Value) (o : Nat) {w : World}, Blk w k cs t → Blk (w.setCells g o vs) k cs t
  | [], _, _, h => h
  | v :: r, o, w, h => Blk.setCellsO hne r (o + 1) (h.other _ _ hne)
theorem own_setCells {base : Nat} {e : TypeId} {size g n cap : Nat} : ∀ (vs : List Value) (o : Nat) (w : World) (xs : List Value), w.ownsRow base e size (.slice (some ⟨g, 0, none⟩) n cap) n xs →
    (w.setCells g o vs).ownsRow base e size (.slice (some ⟨g, 0, none⟩) n cap) n (setL xs o vs)
  | [], _, _, _, h => h
  | v :: r, o, w, xs, h => own_setCells r (o + 1) _ _ (h.stored o v).1
theorem below_setCells {B g : Nat} (hg : B ≤ g) {a : World} : ∀ (vs : List Value) (o : Nat) (w : World), Below B a w → Below B a (w.setCells g o vs)
  | [], _, w, h => h
  | v :: r, o, w, h => below_setCells hg r (o + 1) _ (h.setCell (by exact hg) _)
/-- a whole packet out of a box -/
theorem ldP {ops : Array Oper} {rest : List Oper} {o : Oper} {a : Act} {w : World} {Q : Exit → Act → World → Prop} (hgd : o.guard = none) (x : Operand) (ho : o.op = .load 40 x)
    (g : Nat) (hx : a.eval x = .pointer (some ⟨g, 0, none⟩)) (t : TypeId) (k : Pk) (hg : Blk w g (pkA k) t)
    (h : wpList Tryd.prog ops Q rest (a.put o.dst (.agg (pkA k))) w) : wpList Tryd.prog ops Q (o :: rest) a w :=
  wpList_load_row hgd 40 x ho g hx t (pkA k) (0, 0) _ hg Tryd.underlying40 rfl (by rw [pkA_size]; exact sizePk) h
theorem stP {ops : Array Oper} {rest : List Oper} {o : Oper} {a : Act} {w : World} {Q : Exit → Act → World → Prop} (hgd : o.guard = none) (x y : Operand) (ho : o.op = .store 40 x y)
    (g : Nat) (hx : a.eval x = .pointer (some ⟨g, 0, none⟩)) (k : Pk) (hy : a.eval y = .agg (pkA k)) (t : TypeId) (old : Array Value) (hg : Blk w g old t) (hs : old.size = 18)
    (h : wpList Tryd.prog ops Q rest (a.put o.dst undef) (w.setRow g (pkA k))) : wpList Tryd.prog ops Q (o :: rest) a w :=
  wpList_store_row hgd 40 x y ho g (pkA k) hx hy t old hg (by rw [pkA_size]; exact sizePk) (by rw [pkA_size]; exact hs) (by simpa using pkC_one' k) h
/-- the frame of a packet in a box -/
theorem ldPF {ops : Array Oper} {rest : List Oper} {o : Oper} {a : Act} {w : World} {Q : Exit → Act → World → Prop} (hgd : o.guard = none) (x : Operand) (ho : o.op = .load 32 x)
    (g off : Nat) (hx : a.eval x = .pointer (some ⟨g, off, none⟩)) (f : Nat → Int) (hr : w.rangeAt g off (frF f))
    (h : wpList Tryd.prog ops Q rest (a.put o.dst (.agg (A16 f))) w) : wpList Tryd.prog ops Q (o :: rest) a w :=
  wpList_load_mid hgd 32 x ho g off hx (frF f) _ hr Tryd.underlying32 rfl (by rw [frF_len]; exact sizeF) h
theorem stPF {ops : Array Oper} {rest : List Oper} {o : Oper} {a : Act} {w : World} {Q : Exit → Act → World → Prop} (hgd : o.guard = none) (x y : Operand) (ho : o.op = .store 32 x y)
    (g off : Nat) (hx : a.eval x = .pointer (some ⟨g, off, none⟩)) (f : Nat → Int) (hy : a.eval y = .agg (A16 f)) (hth : w.there g off 16)
    (h : wpList Tryd.prog ops Q rest (a.put o.dst undef) (w.setCells g off (frF f))) : wpList Tryd.prog ops Q (o :: rest) a w :=
  wpList_store_mid hgd 32 x y ho g off (A16 f) hx hy (by rw [A16_size]; exact hth) (by rw [A16_size]; exact sizeF) (by simpa using frF_one f) h
theorem blk_there {w : World} {g : Nat} {cs : Array Value} {t : TypeId} (h : Blk w g cs t) (o n : Nat) (hs : o + n ≤ cs.size) : w.there g o n := fun i hi => ⟨by rw [h.cell, Array.getElem?_eq_getElem (by omega)]; rfl, h.frozen _⟩
set_option maxHeartbeats 1600000 in
theorem toPk_c (k : Pk) (w : World) : Calls Tryd.prog 95 #[.agg (pkA k)] w fun e w' => e = .returned (.agg (pkA k)) ∧ Below w.heap.size w w' := by
  obtain ⟨W1, hW1⟩ : ∃ W, w.alloc (Obj.cells (pkA k) 105) = W := ⟨_, rfl⟩
  have B1 : Below w.heap.size w W1 := by rw [← hW1]; exact (Below.refl _ _).alloc (Nat.le_refl _) _
  have K1 : Blk W1 w.heap.size (pkA k) 105 := by rw [← hW1]; exact Blk.new _ _ _
  have s1 : W1.heap.size = w.heap.size + 1 := by rw [← hW1]; simp
  obtain ⟨W3, hW3⟩ : ∃ W, (W1.alloc (Obj.cells (pkA zPk) 40)).alloc (Obj.cells (pkA ⟨k.t, k.s, fun _ => 0⟩) 40) = W := ⟨_, rfl⟩
  have B3 : Below w.heap.size w W3 := by rw [← hW3]; exact (B1.alloc (by omega) _).alloc (by simp; omega) _
  have HK : Hid (Blk W3 w.heap.size (pkA k) 105 ∧ Blk W3 (w.heap.size + 1) (pkA zPk) 40 ∧ Blk W3 (w.heap.size + 1 + 1) (pkA ⟨k.t, k.s, fun _ => 0⟩) 40) := by
    rw [← hW3]
    exact ⟨(K1.alloc _).alloc _, (Blk.newAt _ _ _ _ (by rw [s1])).alloc _, Blk.newAt _ _ _ _ (by simp [s1])⟩
  have HB3 : Hid (Below w.heap.size w W3) := B3
  have x0 := pk_cell0 K1
  have x1 := pk_cell1 K1
  have hlt : w.heap.size < W1.heap.size := by omega
  have HW3 : Hid ((W1.alloc (Obj.cells #[.int .i64 0, .int .i64 0, .int .u8 0, .int .u8 0, .int .u8 0, .int .u8 0, .int .u8 0, .int .u8 0, .int .u8 0, .int .u8 0, .int .u8 0, .int .u8 0, .int .u8 0, .int .u8 0, .int .u8 0, .int .u8 0, .int .u8 0, .int .u8 0] 40)).alloc (Obj.cells #[.int .i64 k.t, .int .i64 k.s, .int .u8 0, .int .u8 0, .int .u8 0, .int .u8 0, .int .u8 0, .int .u8 0, .int .u8 0, .int .u8 0, .int .u8 0, .int .u8 0, .int .u8 0, .int .u8 0, .int .u8 0, .int .u8 0, .int .u8 0, .int .u8 0] 40) = W3) := hW3
  have HR : Hid (((W1.alloc (Obj.cells #[.int .i64 0, .int .i64 0, .int .u8 0, .int .u8 0, .int .u8 0, .int .u8 0, .int .u8 0, .int .u8 0, .int .u8 0, .int .u8 0, .int .u8 0, .int .u8 0, .int .u8 0, .int .u8 0, .int .u8 0, .int .u8 0, .int .u8 0, .int .u8 0] 40)).alloc (Obj.cells #[.int .i64 k.t, .int .i64 k.s, .int .u8 0, .int .u8 0, .int .u8 0, .int .u8 0, .int .u8 0, .int .u8 0, .int .u8 0, .int .u8 0, .int .u8 0, .int .u8 0, .int .u8 0, .int .u8 0, .int .u8 0, .int .u8 0, .int .u8 0, .int .u8 0] 40)).rangeAt w.heap.size 2 (frF k.f)) := by rw [HW3.out]; exact pk_range HK.out.1
  clear B1 K1 B3 hW3
  go_enter Tryd.func95, Tryd.ntmps95
  go_wp2_with (refine ldPF rfl _ rfl _ _ rfl k.f HR.out ?_)
  rw [HW3.out]
  refine (to16_c k.f _).mono ?_
  rintro e w4 ⟨rfl, b4⟩
  have K4 := HK.out.1.below b4 HK.out.1.lt
  have K5 := HK.out.2.1.below b4 HK.out.2.1.lt
  have K6 := HK.out.2.2.below b4 HK.out.2.2.lt
  have K7 := K6.setCells (frF k.f) 2
  have e7 : setL (pkC ⟨k.t, k.s, fun _ => 0⟩) 2 (frF k.f) = pkC k := by
    have := setL_mid (frF k.f) [.int .i64 k.t, .int .i64 k.s] (frF fun _ => 0) [] (by simp [frF_len])
    simpa using this
  rw [e7] at K7
  have K8 := K5.setCellsO (g := w.heap.size + 1 + 1) (by omega) (frF k.f) 2
  have B4 : Below w.heap.size w w4 := belowCall HB3.out b4 HB3.out.size
  have B5 := below_setCells (g := w.heap.size + 1 + 1) (by omega) (frF k.f) 2 w4 B4
  have HTH : Hid (w4.there (w.heap.size + 1 + 1) 2 16) := blk_there K6 2 16 (by rw [pkA_size]; omega)
  obtain ⟨W7, hW7⟩ : ∃ W, w4.setCells (w.heap.size + 1 + 1) 2 (frF k.f) = W := ⟨_, rfl⟩
  rw [hW7] at K7 K8 B5
  have HW7 : Hid (w4.setCells (w.heap.size + 1 + 1) 2 (frF k.f) = W7) := hW7
  have HK7 : Hid (Blk W7 (w.heap.size + 1 + 1) (pkA k) 40) := K7
  have HK8 : Hid (Blk W7 (w.heap.size + 1) (pkA zPk) 40) := K8
  have HB5 : Hid (Below w.heap.size w W7) := B5
  clear K4 K5 K6 K7 K8 B4 B5 b4 HK HB3 HR HW3 x0 x1 e7 hW1 hW7
  go_wp2_with (first | (rw [HW7.out]; refine ldP rfl _ rfl _ rfl 40 k HK7.out ?_) | refine stPF rfl _ _ rfl _ _ rfl k.f rfl HTH.out ?_ | refine stP rfl _ _ rfl _ rfl k rfl 40 _ HK8.out (pkA_size _) ?_)
  have h3 := HK8.out.row (pkA k)
  exact bodyPost_ret (v := .agg (pkA k)) (results_cell_row rfl _ _ _ 40 (pkA k) (0, 0) _ rfl h3 Tryd.underlying40 rfl (by rw [pkA_size]; exact sizePk)) rfl ⟨rfl, belowRow HB5.out _ (by omega) _⟩

end Go.Proofs.YtkjfcebdjnclaaaDoor
