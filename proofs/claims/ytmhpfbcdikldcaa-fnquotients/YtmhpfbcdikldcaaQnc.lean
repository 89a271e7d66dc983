/- All that FnQuotients calls, at one pair of whole samples, by contracts; no condition. -/
import Derived.Test.YtmhpfbcdikldcaaQnb
namespace Go.Proofs.Ytmhpfbcdikldcaa
open Go.RowKit Go.ChangeShapes Go.WideShapes Go.ChangeAt
set_option linter.unusedVariables false
set_option linter.unusedSimpArgs false
set_option maxRecDepth 8000
/-- the samples that are multiplied by: their bits, and what they are -/
def bF : Nat → Nat × Nat
  | 0 => (1065353216, 0)
  | 1 => (3212836864, 0)
  | 2 => (0, 1065353216)
  | 3 => (1065353216, 1065353216)
  | 4 => (3212836864, 1065353216)
  | _ => (1073741824, 0)
def bI : Nat → Int × Int
  | 0 => (1, 0)
  | 1 => (-1, 0)
  | 2 => (0, 1)
  | 3 => (1, 1)
  | 4 => (-1, 1)
  | _ => (2, 0)
theorem wid_0 : wid 0 = 0 := by decide +kernel
theorem wid_1065353216 : wid 1065353216 = 4607182418800017408 := by decide +kernel
theorem wid_3212836864 : wid 3212836864 = 13830554455654793216 := by decide +kernel
theorem wid_1073741824 : wid 1073741824 = 4611686018427387904 := by decide +kernel
theorem bWz (k : Nat) (hk : k < 6) : Wz .f32 (bI k).1 (bF k).1 ∧ Wz .f32 (bI k).2 (bF k).2 ∧ (bI k).1.natAbs ≤ 2 ∧ (bI k).2.natAbs ≤ 2 := by
  match k, hk with
  | 0, _ => exact ⟨⟨false, 1, by decide +kernel, by decide⟩, ⟨false, 0, by decide +kernel, by decide⟩, by decide, by decide⟩
  | 1, _ => exact ⟨⟨true, 1, by decide +kernel, by decide⟩, ⟨false, 0, by decide +kernel, by decide⟩, by decide, by decide⟩
  | 2, _ => exact ⟨⟨false, 0, by decide +kernel, by decide⟩, ⟨false, 1, by decide +kernel, by decide⟩, by decide, by decide⟩
  | 3, _ => exact ⟨⟨false, 1, by decide +kernel, by decide⟩, ⟨false, 1, by decide +kernel, by decide⟩, by decide, by decide⟩
  | 4, _ => exact ⟨⟨true, 1, by decide +kernel, by decide⟩, ⟨false, 1, by decide +kernel, by decide⟩, by decide, by decide⟩
  | 5, _ => exact ⟨⟨false, 2, by decide +kernel, by decide⟩, ⟨false, 0, by decide +kernel, by decide⟩, by decide, by decide⟩
theorem bDiv (k : Nat) (hk : k < 6) (X Y : Int) (hX : X.natAbs < 320) (hY : Y.natAbs < 320) (a b : Nat) (ha : Wz .f64 (X * (bI k).1 - Y * (bI k).2) a) (hb : Wz .f64 (X * (bI k).2 + Y * (bI k).1) b) :
    qOk a b (wid (bF k).1) (wid (bF k).2) = true ∧ (∃ z, qR a b (wid (bF k).1) (wid (bF k).2) = some z ∧ Wz .f64 X z) ∧ ∃ z, qI a b (wid (bF k).1) (wid (bF k).2) = some z ∧ Wz .f64 Y z := by
  match k, hk with
  | 0, _ => simpa only [bF, wid_1065353216, wid_0] using div0 X Y hX hY a b ha hb
  | 1, _ => simpa only [bF, wid_3212836864, wid_0] using div1 X Y hX hY a b ha hb
  | 2, _ => simpa only [bF, wid_0, wid_1065353216] using div2 X Y hX hY a b ha hb
  | 3, _ => simpa only [bF, wid_1065353216, wid_1065353216] using div3 X Y hX hY a b ha hb
  | 4, _ => simpa only [bF, wid_3212836864, wid_1065353216] using div4 X Y hX hY a b ha hb
  | 5, _ => simpa only [bF, wid_1073741824, wid_0] using div5 X Y hX hY a b ha hb
/-- what all calls of the law answer at a and b -/
structure QC (a b c d m1 m2 q1 q2 p1 p2 u1 u2 n1 n2 z1 z2 : Nat) : Prop where
  c7 : ∀ w, Calls Try.prog 7 #[.agg #[.float .f32 a, .float .f32 b], .agg #[.float .f32 c, .float .f32 d]] w fun e w' => e = .returned (.agg #[.float .f32 m1, .float .f32 m2]) ∧ Below w.heap.size w w'
  c18 : ∀ w, Calls Try.prog 18 #[.agg #[.float .f32 m1, .float .f32 m2], .agg #[.float .f32 c, .float .f32 d]] w fun e w' => e = .returned (.tuple #[.agg #[.float .f32 q1, .float .f32 q2], .bool true]) ∧ Below w.heap.size w w'
  c12a : ∀ w, Calls Try.prog 12 #[.agg #[.float .f32 a, .float .f32 b]] w fun e w' => e = .returned (.agg #[.float .f64 (wid a), .float .f64 (wid b)]) ∧ Below w.heap.size w w'
  c12b : ∀ w, Calls Try.prog 12 #[.agg #[.float .f32 c, .float .f32 d]] w fun e w' => e = .returned (.agg #[.float .f64 (wid c), .float .f64 (wid d)]) ∧ Below w.heap.size w w'
  c11 : ∀ w, Calls Try.prog 11 #[.agg #[.float .f64 (wid a), .float .f64 (wid b)], .agg #[.float .f64 (wid c), .float .f64 (wid d)]] w fun e w' => e = .returned (.agg #[.float .f64 p1, .float .f64 p2]) ∧ Below w.heap.size w w'
  c19 : ∀ w, Calls Try.prog 19 #[.agg #[.float .f64 p1, .float .f64 p2], .agg #[.float .f64 (wid c), .float .f64 (wid d)]] w fun e w' => e = .returned (.tuple #[.agg #[.float .f64 u1, .float .f64 u2], .bool true]) ∧ Below w.heap.size w w'
  c18z : ∀ w, Calls Try.prog 18 #[.agg #[.float .f32 a, .float .f32 b], .agg #[.float .f32 0, .float .f32 0]] w fun e w' => e = .returned (.tuple #[.agg #[.float .f32 z1, .float .f32 z2], .bool false]) ∧ Below w.heap.size w w'
  c15 : ∀ w, Calls Try.prog 15 #[.agg #[.float .f32 q1, .float .f32 q2], .agg #[.float .f32 a, .float .f32 b]] w fun e w' => e = .returned (.bool true) ∧ Below w.heap.size w w'
  c10 : ∀ w, Calls Try.prog 10 #[.agg #[.float .f64 u1, .float .f64 u2]] w fun e w' => e = .returned (.agg #[.float .f32 n1, .float .f32 n2]) ∧ Below w.heap.size w w'
  c8 : ∀ w, Calls Try.prog 8 #[.agg #[.float .f32 n1, .float .f32 n2], .agg #[.float .f32 a, .float .f32 b]] w fun e w' => e = .returned (.bool true) ∧ Below w.heap.size w w'
theorem zero_no (a b : Nat) : qOk a b (wid 0) (wid 0) = false := by
  have h : z2 (wid 0) (wid 0) = true := by decide +kernel
  simp [qOk, h]
theorem allQ (k : Nat) (hk : k < 6) (X Y : Int) (hX : X.natAbs ≤ 200) (hY : Y.natAbs ≤ 200) (a b : Nat) (ha : Wz .f32 X a) (hb : Wz .f32 Y b) :
    ∃ m1 m2 q1 q2 p1 p2 u1 u2 n1 n2 z1 z2, QC a b (bF k).1 (bF k).2 m1 m2 q1 q2 p1 p2 u1 u2 n1 n2 z1 z2 := by
  obtain ⟨hc, hd, bC, bD⟩ := bWz k hk
  have hv := bDiv k hk X Y (by omega) (by omega)
  generalize (bF k).1 = c at *
  generalize (bF k).2 = d at *
  generalize (bI k).1 = C at *
  generalize (bI k).2 = D at *
  have bm1 := mul_bd hX bC
  have bm2 := mul_bd hY bD
  have bm3 := mul_bd hX bD
  have bm4 := mul_bd hY bC
  obtain ⟨m1, m2, w1, w2, hp⟩ := prod_c ha hb hc hd hX hY bC bD
  have h7 := mulS_c a b c d m1 m2 hp
  obtain ⟨k1, ⟨x1, g1, v1⟩, y1, g2, v2⟩ := hv (wid m1) (wid m2) (w1.wide (by omega)) (w2.wide (by omega))
  obtain ⟨q1, q2, s1, s2, h18⟩ := quotS_c w1 w2 hc hd (by omega) (by omega) bC bD k1 g1 g2 v1 v2 (by omega) (by omega)
  have wa := ha.wide (by omega)
  have wb := hb.wide (by omega)
  have wc := hc.wide (by omega)
  have wd := hd.wide (by omega)
  obtain ⟨⟨p1, e5, w5⟩, p2, e6, w6⟩ := mulW wa wb wc wd hX hY bC bD
  have h11 := mulE (wid a) (wid b) (wid c) (wid d) p1 p2 (by rw [wa.fc, wb.fc, wc.fc, wd.fc]; exact e5) (by rw [wa.fc, wb.fc, wc.fc, wd.fc]; exact e6)
  obtain ⟨k2, ⟨u1, g3, v3⟩, u2, g4, v4⟩ := hv p1 p2 w5 w6
  have h19 := quotE p1 p2 (wid c) (wid d) u1 u2 true w5.lt w6.lt wc.lt wd.lt k2 g3 g4
  have hz := zero_no (wid a) (wid b)
  have w0 : Wz .f32 0 0 := ⟨false, 0, by decide +kernel, rfl⟩
  have w00 : Wz .f64 0 0 := ⟨false, 0, by decide +kernel, rfl⟩
  obtain ⟨z1, z2, -, -, h18z⟩ := quotS_c (x := 0) (y := 0) ha hb w0 w0 (by omega) (by omega) (by decide) (by decide) hz (by unfold qR; rw [hz]; rfl) (by unfold qI; rw [hz]; rfl) w00 w00 (by decide) (by decide)
  obtain ⟨s, m, rfl, hm, hs⟩ := v3.single (by omega)
  obtain ⟨t, n, rfl, hn, ht⟩ := v4.single (by omega)
  have n1 : Wz .f32 X (wN .f32 s m) := ⟨s, m, rfl, hs⟩
  have n2 : Wz .f32 Y (wN .f32 t n) := ⟨t, n, rfl, ht⟩
  exact ⟨m1, m2, q1, q2, p1, p2, _, _, wN .f32 s m, wN .f32 t n, z1, z2,
    ⟨h7, h18, widE a b X Y ha hb (by omega) (by omega), widE c d C D hc hd (by omega) (by omega), h11, h19, h18z, sameE _ _ _ _ (s1.eq ha) (s2.eq hb), narI_c s t m n hm hn, alikeE _ _ _ _ (n1.eq ha) (n2.eq hb)⟩⟩

end Go.Proofs.Ytmhpfbcdikldcaa
