/- MulSample, QuotSample and what goes with them on whole numbers, by their contracts; no condition. -/
import Derived.Test.YtmhpfbcdikldcaaQna
import Derived.Test.YtmhpfbcdikldcaaOver
import Derived.Test.YtmhpfbcdikldcaaMixT
import Derived.Test.YtmhpfbcdikldcaaSam
import Derived.BigQuiet
namespace Go.Proofs.Ytmhpfbcdikldcaa
open Go.RowKit Go.ChangeShapes Go.WideShapes Go.ChangeAt
set_option linter.unusedVariables false
set_option linter.unusedSimpArgs false
set_option maxRecDepth 8000

theorem fc_val {k : FloatKind} {x b : Nat} (h : fc k x = some b) : x = b := by
  rcases fc_cases k x with ⟨h1, h2⟩ | ⟨h1, h2⟩
  · rw [h2] at h; cases h
  · rw [h2] at h; exact Option.some.inj h
theorem mul_bd {A C : Int} {m n : Nat} (h : A.natAbs ≤ m) (g : C.natAbs ≤ n) : (A * C).natAbs ≤ m * n := by rw [Int.natAbs_mul]; exact Nat.mul_le_mul h g
/-- widening is told, where the parts are whole -/
theorem cvw {A B : Int} {a b : Nat} (ha : Wz .f32 A a) (hb : Wz .f32 B b) (w : World) : (convert 45 48 (.complex .f32 a b)).run Try.prog w = .ok (.complex .f64 (wid a) (wid b)) w := by
  rw [run_conv_cwid (P := Try.prog) 45 48 a b w (by kernel_rfl) (by kernel_rfl)]
  simp [wv, wn, ha.nan, hb.nan, World.drewN_zero]
/-- narrowing likewise -/
theorem cvn (s t : Bool) (m n : Nat) (hm : m < 16777216) (hn : n < 16777216) (w : World) : (convert 48 45 (.complex .f64 (wN .f64 s m) (wN .f64 t n))).run Try.prog w = .ok (.complex .f32 (wN .f32 s m) (wN .f32 t n)) w := by
  simp [convert, run_underlying Try.underlying48, run_underlying Try.underlying45, Conv.complexToComplex, run_nar _ _ hm, run_nar _ _ hn]
/-- a whole number in double precision that is small is one in single precision -/
theorem Wz.single {v : Int} {x : Nat} (h : Wz .f64 v x) (hv : v.natAbs < 16777216) : ∃ s n, x = wN .f64 s n ∧ n < 16777216 ∧ sg s n = v := by
  obtain ⟨s, n, rfl, rfl⟩ := h
  rw [sg_abs] at hv
  exact ⟨s, n, rfl, hv, rfl⟩
/-- what the product of two in double precision is -/
theorem mulW {A B C D : Int} {a b c d : Nat} (ha : Wz .f64 A a) (hb : Wz .f64 B b) (hc : Wz .f64 C c) (hd : Wz .f64 D d) (bA : A.natAbs ≤ 200) (bB : B.natAbs ≤ 200) (bC : C.natAbs ≤ 2) (bD : D.natAbs ≤ 2) :
    (∃ x, fo .sub .f64 (fo .mul .f64 (some a) (some c)) (fo .mul .f64 (some b) (some d)) = some x ∧ Wz .f64 (A * C - B * D) x) ∧
    ∃ y, fo .add .f64 (fo .mul .f64 (some a) (some d)) (fo .mul .f64 (some b) (some c)) = some y ∧ Wz .f64 (A * D + B * C) y := by
  obtain ⟨p1, e1, w1⟩ := ha.mul hc (by omega) (by omega)
  obtain ⟨p2, e2, w2⟩ := hb.mul hd (by omega) (by omega)
  obtain ⟨p3, e3, w3⟩ := ha.mul hd (by omega) (by omega)
  obtain ⟨p4, e4, w4⟩ := hb.mul hc (by omega) (by omega)
  have m1 := mul_bd bA bC
  have m2 := mul_bd bB bD
  have m3 := mul_bd bA bD
  have m4 := mul_bd bB bC
  rw [e1, e2, e3, e4]
  exact ⟨w1.sub w2 (by omega) (by omega) (by omega), w3.add w4 (by omega) (by omega) (by omega)⟩
/-- the product of samples -/
theorem prod_c {A B C D : Int} {a b c d : Nat} (ha : Wz .f32 A a) (hb : Wz .f32 B b) (hc : Wz .f32 C c) (hd : Wz .f32 D d) (bA : A.natAbs ≤ 200) (bB : B.natAbs ≤ 200) (bC : C.natAbs ≤ 2) (bD : D.natAbs ≤ 2) :
    ∃ x y, Wz .f32 (A * C - B * D) x ∧ Wz .f32 (A * D + B * C) y ∧ ∀ w, Calls Try.prog 22 #[.complex .f32 a b, .complex .f32 c d] w fun e w' => e = .returned (.complex .f32 x y) ∧ Below w.heap.size w w' := by
  have wa := ha.wide (by omega)
  have wb := hb.wide (by omega)
  have wc := hc.wide (by omega)
  have wd := hd.wide (by omega)
  obtain ⟨⟨x0, e5, w5⟩, y0, e6, w6⟩ := mulW wa wb wc wd bA bB bC bD
  have m1 := mul_bd bA bC
  have m2 := mul_bd bB bD
  have m3 := mul_bd bA bD
  have m4 := mul_bd bB bC
  obtain ⟨s, m, rfl, hm, hs⟩ := w5.single (by omega)
  obtain ⟨t, n, rfl, hn, ht⟩ := w6.single (by omega)
  refine ⟨wN .f32 s m, wN .f32 t n, ⟨s, m, rfl, hs⟩, ⟨t, n, rfl, ht⟩, fun w => ?_⟩
  obtain ⟨re, im, k, hop, hre, him⟩ := run_cmul (P := Try.prog) 48 (wid a) (wid b) (wid c) (wid d) w
  rw [wa.fc, wb.fc, wc.fc, wd.fc, e5] at hre
  rw [wa.fc, wb.fc, wc.fc, wd.fc, e6] at him
  obtain rfl := fc_val hre
  obtain rfl := fc_val him
  have c1 := cvw ha hb
  have c2 := cvw hc hd
  have c3 := cvn s t m n hm hn
  clear hre him e5 e6 w6 w5 ht hs ha hb hc hd wa wb wc wd
  generalize wid a = a' at *
  generalize wid b = b' at *
  generalize wid c = c' at *
  generalize wid d = d' at *
  generalize wN .f64 s m = p at *
  generalize wN .f64 t n = q at *
  generalize wN .f32 s m = p' at *
  generalize wN .f32 t n = q' at *
  have HB : Hid (Below w.heap.size w (w.drewN k)) := below_drewN (Below.refl _ _) _
  go_enter Try.func22, Try.ntmps22
  go_wp2
  go_ret
  exact ⟨rfl, HB.out⟩
theorem results_S2 {fn : Func} {u p : Tmp} (h : fn.results = #[.cell p 26, .tmp u]) (tmps : Array Value) (w : World) (g : Nat) (x y q : Value)
    (hu : tmps.getD u undef = q) (hp : tmps.getD p undef = .pointer (some ⟨g, 0, none⟩)) (hg : Blk w g #[x, y] 26) :
    (results fn tmps).run Try.prog w = .ok (.tuple #[.agg #[x, y], q]) w := by
  have hp' : tmps[p]?.getD undef = .pointer (some ⟨g, 0, none⟩) := by simpa using hp
  have hu' : tmps[u]?.getD undef = q := by simpa using hu
  have hr := run_loadVar_row (P := Try.prog) w g 26 26 #[x, y] (0, 0) _ hg Try.underlying26 rfl sz26
  simp [results, h, hp', hu', asAddr, hr]

/-- MulSample, whose product is told -/
theorem mulS_c (a b c d x y : Nat) (hp : ∀ w, Calls Try.prog 22 #[.complex .f32 a b, .complex .f32 c d] w fun e w' => e = .returned (.complex .f32 x y) ∧ Below w.heap.size w w') (w : World) :
    Calls Try.prog 7 #[.agg #[.float .f32 a, .float .f32 b], .agg #[.float .f32 c, .float .f32 d]] w fun e w' => e = .returned (.agg #[.float .f32 x, .float .f32 y]) ∧ Below w.heap.size w w' := by
  have hsf := storeF
  have HP : Hid (∀ w, Calls Try.prog 22 #[.complex .f32 a b, .complex .f32 c d] w fun e w' => e = .returned (.complex .f32 x y) ∧ Below w.heap.size w w') := hp
  clear hp
  obtain ⟨W0, hW0⟩ : ∃ W, (((w.alloc (Obj.cells #[.float .f32 a, .float .f32 b] 26)).alloc (Obj.cells #[.float .f32 c, .float .f32 d] 26))).alloc (Obj.cells #[.float .f32 0, .float .f32 0] 26) = W := ⟨_, rfl⟩
  have HW0 : Hid ((((w.alloc (Obj.cells #[.float .f32 a, .float .f32 b] 26)).alloc (Obj.cells #[.float .f32 c, .float .f32 d] 26))).alloc (Obj.cells #[.float .f32 0, .float .f32 0] 26) = W0) := hW0
  have HB0 : Hid (Below w.heap.size w W0) := by rw [← hW0]; exact (((Below.refl _ _).alloc (Nat.le_refl _) _).alloc (by simp) _).alloc (by simp; omega) _
  have HK0 : Hid (Blk W0 w.heap.size #[.float .f32 a, .float .f32 b] 26) := by rw [← hW0]; exact ((Blk.new _ _ _).alloc _).alloc _
  have HK1 : Hid (Blk W0 (w.heap.size + 1) #[.float .f32 c, .float .f32 d] 26) := by rw [← hW0]; exact (Blk.newAt _ _ _ _ (by simp)).alloc _
  have HK2 : Hid (Blk W0 (w.heap.size + 1 + 1) #[.float .f32 0, .float .f32 0] 26) := by rw [← hW0]; exact Blk.newAt _ _ _ _ (by simp)
  obtain ⟨S, hS⟩ : ∃ S : World → Prop, ∀ W, S W ↔ Below W0.heap.size W0 W := ⟨_, fun _ => Iff.rfl⟩
  have HS : Hid (∀ W, S W ↔ Below W0.heap.size W0 W) := hS
  have x0 : ∀ W : At S, W.wd.cell? ⟨w.heap.size, 0, none⟩ = some (.float .f32 a) := fun W => by rw [(HK0.out.below ((hS _).1 W.ok) HK0.out.lt).cell]; rfl
  have x1 : ∀ W : At S, W.wd.cell? ⟨w.heap.size, 1, none⟩ = some (.float .f32 b) := fun W => by rw [(HK0.out.below ((hS _).1 W.ok) HK0.out.lt).cell]; rfl
  have y0 : ∀ W : At S, W.wd.cell? ⟨w.heap.size + 1, 0, none⟩ = some (.float .f32 c) := fun W => by rw [(HK1.out.below ((hS _).1 W.ok) HK1.out.lt).cell]; rfl
  have y1 : ∀ W : At S, W.wd.cell? ⟨w.heap.size + 1, 1, none⟩ = some (.float .f32 d) := fun W => by rw [(HK1.out.below ((hS _).1 W.ok) HK1.out.lt).cell]; rfl
  have ne : Nonempty (At S) := ⟨⟨W0, (hS _).2 (Below.refl _ _)⟩⟩
  clear hS hW0
  go_enter Try.func7, Try.ntmps7
  go_wp2
  rw [HW0.out]
  refine region_mixT [true, false, true, false, false, false, false] 3 1 S (by kernel_rfl) rfl (by kernel_rfl) (fun _ _ _ _ _ h => h) ((HS.out _).2 (Below.refl _ _).drew) ?_
  simp only [selT, selF]
  try simp only [Act.put]
  repeat (go_big_quiet_step (fail))
  refine wpQuiet_nil ?_
  clear x0 x1 y0 y1 ne
  refine tail_step ?_
  go_wp2_with (fail)
  refine (inSingle_c a b _).mono ?_
  rintro e w1 ⟨rfl, b1⟩
  have HB1 : Hid (Below W0.heap.size W0 w1) := (Below.refl _ _).drew.trans b1
  clear b1
  go_wp2
  refine ⟨(HS.out _).2 HB1.out, ?_⟩
  show wpList _ _ _ _ _ _
  go_wp2_with (fail)
  refine (inSingle_c c d _).mono ?_
  rintro e w2 ⟨rfl, b2⟩
  have HB2 : Hid (Below W0.heap.size W0 w2) := belowCall HB1.out b2 HB1.out.size
  clear b2
  go_wp2_with (fail)
  refine (HP.out w2).mono ?_
  rintro e w2b ⟨rfl, b2⟩
  have HB2b : Hid (Below W0.heap.size W0 w2b) := belowCall HB2.out b2 HB2.out.size
  clear b2
  go_wp2_with (fail)
  refine (sampleOf_c _ _ _).mono ?_
  rintro e w3 ⟨rfl, b3⟩
  have HB3 : Hid (Below W0.heap.size W0 w3) := belowCall HB2b.out b3 HB2b.out.size
  have HK3 := HK2.out.below HB3.out HK2.out.lt
  have HK4 : Hid (Blk w3 (w.heap.size + 1 + 1) #[.float .f32 0, .float .f32 0] 26) := HK3
  have z0 := HK3.cell 0
  have z1 := HK3.cell 1
  have f0 := HK3.frozen 0
  have f1 := HK3.frozen 1
  simp at z0 z1
  clear b3 HK3
  go_wp2
  exact bodyPost_ret (results_cell_row rfl _ _ _ 26 _ (0, 0) _ rfl (Blk.set2 HK4.out _ _) Try.underlying26 rfl sz26) rfl ⟨rfl, below_set2 (belowCall HB0.out HB3.out HB0.out.size) _ (by omega) _ _⟩
/-- QuotSample, whose quotient is told -/
theorem quotS_c {A B C D X Y : Int} {a b c d x y : Nat} {ok : Bool} (ha : Wz .f32 A a) (hb : Wz .f32 B b) (hc : Wz .f32 C c) (hd : Wz .f32 D d) (bA : A.natAbs ≤ 1000) (bB : B.natAbs ≤ 1000) (bC : C.natAbs ≤ 2) (bD : D.natAbs ≤ 2)
    (hok : qOk (wid a) (wid b) (wid c) (wid d) = ok) (hx : qR (wid a) (wid b) (wid c) (wid d) = some x) (hy : qI (wid a) (wid b) (wid c) (wid d) = some y) (wX : Wz .f64 X x) (wY : Wz .f64 Y y) (bX : X.natAbs < 320) (bY : Y.natAbs < 320) :
    ∃ u v, Wz .f32 X u ∧ Wz .f32 Y v ∧ ∀ w, Calls Try.prog 18 #[.agg #[.float .f32 a, .float .f32 b], .agg #[.float .f32 c, .float .f32 d]] w fun e w' => e = .returned (.tuple #[.agg #[.float .f32 u, .float .f32 v], .bool ok]) ∧ Below w.heap.size w w' := by
  have wa := ha.wide (by omega)
  have wb := hb.wide (by omega)
  have wc := hc.wide (by omega)
  have wd := hd.wide (by omega)
  obtain ⟨s, m, rfl, hm, hs⟩ := wX.single (by omega)
  obtain ⟨t, n, rfl, hn, ht⟩ := wY.single (by omega)
  refine ⟨wN .f32 s m, wN .f32 t n, ⟨s, m, rfl, hs⟩, ⟨t, n, rfl, ht⟩, fun w => ?_⟩
  have hQ : ∀ W : World, Calls Try.prog 31 #[.complex .f64 (wid a) (wid b), .complex .f64 (wid c) (wid d)] W fun e w' => e = .returned (.tuple #[.complex .f64 (wN .f64 s m) (wN .f64 t n), .bool ok]) ∧ Below W.heap.size W w' := fun W => by
    refine (quotOf_c _ _ _ _ wa.lt wb.lt wc.lt wd.lt W).mono ?_
    rintro e w' ⟨p, q, k, rfl, h1, h2, rfl⟩
    rw [hx] at h1
    rw [hy] at h2
    obtain rfl := fc_val h1
    obtain rfl := fc_val h2
    rw [hok]
    exact ⟨rfl, below_drewN (Below.refl _ _) _⟩
  have c1 := cvw ha hb
  have c2 := cvw hc hd
  have c3 := cvn s t m n hm hn
  clear hok hx hy wX wY ht hs ha hb hc hd wa wb wc wd
  generalize wid a = a' at *
  generalize wid b = b' at *
  generalize wid c = c' at *
  generalize wid d = d' at *
  generalize wN .f64 s m = p at *
  generalize wN .f64 t n = q at *
  generalize wN .f32 s m = p' at *
  generalize wN .f32 t n = q' at *
  have hsf := storeF
  have HQ : Hid (∀ W : World, Calls Try.prog 31 #[.complex .f64 a' b', .complex .f64 c' d'] W fun e w' => e = .returned (.tuple #[.complex .f64 p q, .bool ok]) ∧ Below W.heap.size W w') := hQ
  clear hQ
  obtain ⟨W0, hW0⟩ : ∃ W, (((w.alloc (Obj.cells #[.float .f32 a, .float .f32 b] 26)).alloc (Obj.cells #[.float .f32 c, .float .f32 d] 26))).alloc (Obj.cells #[.float .f32 0, .float .f32 0] 26) = W := ⟨_, rfl⟩
  have HW0 : Hid ((((w.alloc (Obj.cells #[.float .f32 a, .float .f32 b] 26)).alloc (Obj.cells #[.float .f32 c, .float .f32 d] 26))).alloc (Obj.cells #[.float .f32 0, .float .f32 0] 26) = W0) := hW0
  have HB0 : Hid (Below w.heap.size w W0) := by rw [← hW0]; exact (((Below.refl _ _).alloc (Nat.le_refl _) _).alloc (by simp) _).alloc (by simp; omega) _
  have HK0 : Hid (Blk W0 w.heap.size #[.float .f32 a, .float .f32 b] 26) := by rw [← hW0]; exact ((Blk.new _ _ _).alloc _).alloc _
  have HK1 : Hid (Blk W0 (w.heap.size + 1) #[.float .f32 c, .float .f32 d] 26) := by rw [← hW0]; exact (Blk.newAt _ _ _ _ (by simp)).alloc _
  have HK2 : Hid (Blk W0 (w.heap.size + 1 + 1) #[.float .f32 0, .float .f32 0] 26) := by rw [← hW0]; exact Blk.newAt _ _ _ _ (by simp)
  clear hW0
  go_enter Try.func18, Try.ntmps18
  go_wp2
  rw [HW0.out]
  have z0 : ∀ W : Ov W0, W.wd.cell? ⟨w.heap.size, 0, none⟩ = some (.float .f32 a) := fun W => (W.ok.cell HK0.out.lt).trans (HK0.out.cell 0)
  have z1 : ∀ W : Ov W0, W.wd.cell? ⟨w.heap.size, 1, none⟩ = some (.float .f32 b) := fun W => (W.ok.cell HK0.out.lt).trans (HK0.out.cell 1)
  have z2 : ∀ W : Ov W0, W.wd.cell? ⟨w.heap.size + 1, 0, none⟩ = some (.float .f32 c) := fun W => (W.ok.cell HK1.out.lt).trans (HK1.out.cell 0)
  have z3 : ∀ W : Ov W0, W.wd.cell? ⟨w.heap.size + 1, 1, none⟩ = some (.float .f32 d) := fun W => (W.ok.cell HK1.out.lt).trans (HK1.out.cell 1)
  have ne1 : Nonempty (Ov W0) := ⟨⟨_, Below.refl _ _⟩⟩
  have C1 : Hid (∀ (p q : Nat) (W : Ov W0), Calls Try.prog 23 #[.agg #[.float .f32 p, .float .f32 q]] W.wd fun e w'' => e = .returned (.complex .f32 p q) ∧ ∃ W' : Ov W0, w'' = W'.wd) := fun p q W => ov_call (inSingle_c p q W.wd)
  have C2 : Hid (∀ W : Ov W0, Calls Try.prog 31 #[.complex .f64 a' b', .complex .f64 c' d'] W.wd fun e w'' => e = .returned (.tuple #[.complex .f64 p q, .bool ok]) ∧ ∃ W' : Ov W0, w'' = W'.wd) := fun W => ov_call (HQ.out W.wd)
  refine region_over (by kernel_rfl) (by kernel_rfl) ?_
  repeat (go_big_quiet_step (first | (go_at_call 23; exact C1.out _ _ _) | (go_at_call 31; exact C2.out _)))
  refine wpQuiet_nil ?_
  rintro _ ⟨W, rfl⟩
  obtain ⟨w3, hw3⟩ : ∃ U, W.wd = U := ⟨_, rfl⟩
  have HB3 : Hid (Below W0.heap.size W0 w3) := by rw [← hw3]; exact W.ok
  rw [hw3]
  clear hw3 z0 z1 z2 z3 ne1 C1 C2
  go_wp2_with (fail)
  refine (sampleOf_c _ _ _).mono ?_
  rintro e w4 ⟨rfl, b4⟩
  have HB4 : Hid (Below W0.heap.size W0 w4) := belowCall HB3.out b4 HB3.out.size
  have HK3 := HK2.out.below HB4.out HK2.out.lt
  have HK4 : Hid (Blk w4 (w.heap.size + 1 + 1) #[.float .f32 0, .float .f32 0] 26) := HK3
  have z0 := HK3.cell 0
  have z1 := HK3.cell 1
  have f0 := HK3.frozen 0
  have f1 := HK3.frozen 1
  simp at z0 z1
  clear b4 HK3
  go_wp2
  exact bodyPost_ret (results_S2 rfl _ _ _ _ _ _ rfl rfl (Blk.set2 HK4.out _ _)) rfl ⟨rfl, below_set2 (belowCall HB0.out HB4.out HB0.out.size) _ (by omega) _ _⟩
/-- the four in double precision, and the narrowing, where all is whole -/
theorem widE (a b : Nat) (A B : Int) (ha : Wz .f32 A a) (hb : Wz .f32 B b) (bA : A.natAbs < 16777216) (bB : B.natAbs < 16777216) (w : World) : Calls Try.prog 12 #[.agg #[.float .f32 a, .float .f32 b]] w fun e w' => e = .returned (.agg #[.float .f64 (wid a), .float .f64 (wid b)]) ∧ Below w.heap.size w w' := by
  refine (widI_c a b w).mono ?_
  rintro e w' ⟨x, y, rfl, h1, h2, b1⟩
  rw [ha.fc] at h1
  rw [hb.fc] at h2
  obtain rfl := fc_val h1
  obtain rfl := fc_val h2
  exact ⟨rfl, b1⟩
theorem mulE (a b c d x y : Nat) (h1 : fo .sub .f64 (fo .mul .f64 (fc .f64 a) (fc .f64 c)) (fo .mul .f64 (fc .f64 b) (fc .f64 d)) = some x) (h2 : fo .add .f64 (fo .mul .f64 (fc .f64 a) (fc .f64 d)) (fo .mul .f64 (fc .f64 b) (fc .f64 c)) = some y) (w : World) :
    Calls Try.prog 11 #[.agg #[.float .f64 a, .float .f64 b], .agg #[.float .f64 c, .float .f64 d]] w fun e w' => e = .returned (.agg #[.float .f64 x, .float .f64 y]) ∧ Below w.heap.size w w' := by
  refine (mulI_c a b c d w).mono ?_
  rintro e w' ⟨p, q, rfl, g1, g2, b1⟩
  rw [h1] at g1
  rw [h2] at g2
  obtain rfl := fc_val g1
  obtain rfl := fc_val g2
  exact ⟨rfl, b1⟩
theorem quotE (a b c d x y : Nat) (ok : Bool) (ha : a < 2 ^ 64) (hb : b < 2 ^ 64) (hc : c < 2 ^ 64) (hd : d < 2 ^ 64) (hok : qOk a b c d = ok) (h1 : qR a b c d = some x) (h2 : qI a b c d = some y) (w : World) :
    Calls Try.prog 19 #[.agg #[.float .f64 a, .float .f64 b], .agg #[.float .f64 c, .float .f64 d]] w fun e w' => e = .returned (.tuple #[.agg #[.float .f64 x, .float .f64 y], .bool ok]) ∧ Below w.heap.size w w' := by
  refine (quotI_c a b c d ha hb hc hd w).mono ?_
  rintro e w' ⟨p, q, rfl, g1, g2, b1⟩
  rw [h1] at g1
  rw [h2] at g2
  obtain rfl := fc_val g1
  obtain rfl := fc_val g2
  rw [hok]
  exact ⟨rfl, b1⟩
theorem alikeE (x y u v : Nat) (o1 : FloatKind.f32.format.order x u = some .eq) (o2 : FloatKind.f32.format.order y v = some .eq) (w : World) : Calls Try.prog 8 #[.agg #[.float .f32 x, .float .f32 y], .agg #[.float .f32 u, .float .f32 v]] w fun e w' => e = .returned (.bool true) ∧ Below w.heap.size w w' := by
  have HB : Hid (Below w.heap.size w ((w.alloc (Obj.cells #[.float .f32 x, .float .f32 y] 26)).alloc (Obj.cells #[.float .f32 u, .float .f32 v] 26))) := ((Below.refl _ _).alloc (Nat.le_refl _) _).alloc (by simp) _
  go_enter Try.func8, Try.ntmps8
  go_wp2
  go_ret
  exact ⟨rfl, HB.out⟩
theorem sameE (x y u v : Nat) (o1 : FloatKind.f32.format.order x u = some .eq) (o2 : FloatKind.f32.format.order y v = some .eq) (w : World) : Calls Try.prog 15 #[.agg #[.float .f32 x, .float .f32 y], .agg #[.float .f32 u, .float .f32 v]] w fun e w' => e = .returned (.bool true) ∧ Below w.heap.size w w' := by
  refine (sameI_c x y u v w).mono ?_
  rintro e w' ⟨rfl, b1⟩
  exact ⟨by simp [smB, o1, o2], b1⟩
theorem narI_c (s t : Bool) (m n : Nat) (hm : m < 16777216) (hn : n < 16777216) (w : World) : Calls Try.prog 10 #[.agg #[.float .f64 (wN .f64 s m), .float .f64 (wN .f64 t n)]] w fun e w' => e = .returned (.agg #[.float .f32 (wN .f32 s m), .float .f32 (wN .f32 t n)]) ∧ Below w.heap.size w w' := by
  have hsf := storeF
  have hcv : ∀ w : World, (convert 48 45 (.complex .f64 (wN .f64 s m) (wN .f64 t n))).run Try.prog w = .ok (.complex .f32 (wN .f32 s m) (wN .f32 t n)) w := fun w => by
    simp [convert, run_underlying Try.underlying48, run_underlying Try.underlying45, Conv.complexToComplex, run_nar _ _ hm, run_nar _ _ hn]
  obtain ⟨x, hx⟩ : ∃ x, wN .f64 s m = x := ⟨_, rfl⟩
  obtain ⟨y, hy⟩ : ∃ y, wN .f64 t n = y := ⟨_, rfl⟩
  obtain ⟨p, hp⟩ : ∃ x, wN .f32 s m = x := ⟨_, rfl⟩
  obtain ⟨q, hq⟩ : ∃ y, wN .f32 t n = y := ⟨_, rfl⟩
  rw [hx, hy, hp, hq] at hcv
  rw [hx, hy, hp, hq]
  clear hx hy hp hq
  obtain ⟨W0, hW0⟩ : ∃ W, (w.alloc (Obj.cells #[.float .f64 x, .float .f64 y] 34)).alloc (Obj.cells #[.float .f32 0, .float .f32 0] 26) = W := ⟨_, rfl⟩
  have HW0 : Hid ((w.alloc (Obj.cells #[.float .f64 x, .float .f64 y] 34)).alloc (Obj.cells #[.float .f32 0, .float .f32 0] 26) = W0) := hW0
  have HB0 : Hid (Below w.heap.size w W0) := by rw [← hW0]; exact ((Below.refl _ _).alloc (Nat.le_refl _) _).alloc (by simp) _
  have HK0 : Hid (Blk W0 (w.heap.size + 1) #[.float .f32 0, .float .f32 0] 26) := by rw [← hW0]; exact Blk.newAt _ _ _ _ (by simp)
  clear hW0
  go_enter Try.func10, Try.ntmps10
  go_wp2_with (fail)
  rw [HW0.out]
  refine (inDouble_c x y _).mono ?_
  rintro e w1 ⟨rfl, b1⟩
  have HB1 : Hid (Below W0.heap.size W0 w1) := b1
  clear b1
  go_wp2_with (fail)
  refine (sampleOf_c _ _ _).mono ?_
  rintro e w2 ⟨rfl, b2⟩
  have HB2 : Hid (Below W0.heap.size W0 w2) := belowCall HB1.out b2 HB1.out.size
  have HK3 := HK0.out.below HB2.out HK0.out.lt
  have HK4 : Hid (Blk w2 (w.heap.size + 1) #[.float .f32 0, .float .f32 0] 26) := HK3
  have z0 := HK3.cell 0
  have z1 := HK3.cell 1
  have f0 := HK3.frozen 0
  have f1 := HK3.frozen 1
  simp at z0 z1
  clear b2 HK3
  go_wp2
  exact bodyPost_ret (results_cell_row rfl _ _ _ 26 _ (0, 0) _ rfl (Blk.set2 HK4.out _ _) Try.underlying26 rfl sz26) rfl ⟨rfl, below_set2 (belowCall HB0.out HB2.out HB0.out.size) _ (by omega) _ _⟩
theorem big_c (v : Value) (zs : List Int) (w : World) (h : Rd .u8 w v zs) : Calls Try.prog 5 #[v] w fun e w' => e = .returned (.bool (decide ((1048576 : Int) < (zs.length : Int)))) ∧ w' = w := by
  obtain ⟨a, cap, rfl, -, h2, -⟩ := h
  unfold maxLen at h2
  go_enter Try.func5, Try.ntmps5
  go_wp2
  go_ret
  exact ⟨rfl, rfl⟩
set_option maxHeartbeats 1600000 in
theorem at_c (v : Value) (zs : List Int) (i : Int) (w : World) (h : Rd .u8 w v zs) (hok : ∀ z ∈ zs, 0 ≤ z ∧ z ≤ 255) (hi0 : 0 ≤ i) (hi : i ≤ 100000) (hlen : zs.length ≤ 1048576) :
   Calls Try.prog 17 #[v, .int .i64 i] w fun e w' => ∃ x : Int, e = .returned (.int .i64 x) ∧ 0 ≤ x ∧ x ≤ 255 ∧ w' = w := by
  obtain ⟨a, cap, rfl, h1, h2, h3⟩ := h
  unfold maxLen at h2
  obtain ⟨k, rfl⟩ := Int.eq_ofNat_of_zero_le hi0
  by_cases hlt : k < zs.length
  · rcases h3 with h3 | ⟨b, off, rfl, h4⟩
    · subst h3; simp at hlt
    have hc := h4 k hlt
    have hb := hok _ (List.getElem_mem hlt)
    have hltI : (k : Int) < (zs.length : Int) := by omega
    clear h4 hok
    go_enter Try.func17, Try.ntmps17
    go_wp2
    go_ret
    exact ⟨_, rfl, hb.1, hb.2, rfl⟩
  · clear h3 hok
    go_enter Try.func17, Try.ntmps17
    go_wp2
    go_ret
    exact ⟨_, rfl, by omega, by omega, rfl⟩


end Go.Proofs.Ytmhpfbcdikldcaa
