/- Whole numbers in floats: sums, products and quotients; no condition. -/
import Derived.Test.YtmhpfbcdikldcaaExb
import Derived.Test.YtmhpfbcdikldcaaQu6
import Derived.Test.YtmhpfbcdikldcaaSmp
import Derived.Test.YtmhpfbcdikldcaaSam
import Derived.Test.YtmhpfbcdikldcaaSl
namespace Go.Proofs.Ytmhpfbcdikldcaa
open Go.RowKit Go.ChangeShapes Go.WideShapes Go.ChangeAt
set_option linter.unusedVariables false
set_option linter.unusedSimpArgs false
set_option maxRecDepth 8000

theorem bK (k : FloatKind) : 16777216 ≤ 2 ^ (k.format.fractionBits + 1) := by cases k <;> decide
/-- x holds the whole number v (a zero of either sign) -/
def Wz (k : FloatKind) (v : Int) (x : Nat) : Prop := ∃ s n, x = wN k s n ∧ sg s n = v
theorem sg_abs (s : Bool) (n : Nat) : (sg s n).natAbs = n := by cases s <;> simp [sg]
theorem sg_not (s : Bool) (n : Nat) : sg (!s) n = -sg s n := by cases s <;> simp [sg]
theorem sg_mul (s t : Bool) (m n : Nat) : sg (s ^^ t) (m * n) = sg s m * sg t n := by cases s <;> cases t <;> simp [sg, Int.natCast_mul, Int.neg_mul, Int.mul_neg]
theorem sg_self (z : Int) : sg (decide (z < 0)) z.natAbs = z := by
  by_cases h : z < 0
  · simp [sg, h]; omega
  · simp [sg, h]; omega
theorem sg_zero (s : Bool) : sg s 0 = 0 := by cases s <;> rfl
theorem Wz.fi (k : FloatKind) (z : Int) : Wz k z (fi k z) := ⟨_, _, rfl, sg_self z⟩
theorem Wz.fc {k : FloatKind} {v : Int} {x : Nat} (h : Wz k v x) : fc k x = some x := by obtain ⟨s, n, rfl, -⟩ := h; exact wN_fc ..
theorem Wz.nan {k : FloatKind} {v : Int} {x : Nat} (h : Wz k v x) : fnan k x = false := by obtain ⟨s, n, rfl, -⟩ := h; exact wN_nan ..
theorem Wz.add {k : FloatKind} {u v : Int} {x y : Nat} (hx : Wz k u x) (hy : Wz k v y) (hu : u.natAbs < 16777216) (hv : v.natAbs < 16777216) (h : (u + v).natAbs < 16777216) :
    ∃ z, fo .add k (some x) (some y) = some z ∧ Wz k (u + v) z := by
  obtain ⟨s, m, rfl, rfl⟩ := hx
  obtain ⟨t, n, rfl, rfl⟩ := hy
  rw [sg_abs] at hu hv
  have b := bK k
  refine ⟨_, addw s t m n (by omega) (by omega) (by omega), _, _, rfl, ?_⟩
  by_cases h0 : sg s m + sg t n = 0
  · rw [h0]; exact sg_zero _
  · rw [if_neg h0]; exact sg_self _
theorem Wz.sub {k : FloatKind} {u v : Int} {x y : Nat} (hx : Wz k u x) (hy : Wz k v y) (hu : u.natAbs < 16777216) (hv : v.natAbs < 16777216) (h : (u - v).natAbs < 16777216) :
    ∃ z, fo .sub k (some x) (some y) = some z ∧ Wz k (u - v) z := by
  obtain ⟨s, m, rfl, rfl⟩ := hx
  obtain ⟨t, n, rfl, rfl⟩ := hy
  rw [sg_abs] at hu hv
  have b := bK k
  have e : sg s m + sg (!t) n = sg s m - sg t n := by rw [sg_not]; omega
  refine ⟨_, subw s t m n (by omega) (by omega) (by rw [e]; omega), _, _, rfl, ?_⟩
  rw [← e]
  by_cases h0 : sg s m + sg (!t) n = 0
  · rw [h0]; exact sg_zero _
  · rw [if_neg h0]; exact sg_self _
theorem Wz.mul {k : FloatKind} {u v : Int} {x y : Nat} (hx : Wz k u x) (hy : Wz k v y) (hu : u.natAbs < 4096) (hv : v.natAbs < 4096) :
    ∃ z, fo .mul k (some x) (some y) = some z ∧ Wz k (u * v) z := by
  obtain ⟨s, m, rfl, rfl⟩ := hx
  obtain ⟨t, n, rfl, rfl⟩ := hy
  rw [sg_abs] at hu hv
  have b := bK k
  have hmn : m * n ≤ 4095 * 4095 := Nat.mul_le_mul (by omega) (by omega)
  exact ⟨_, mulw s t m n (by omega) (by omega) (by omega), _, _, rfl, sg_mul s t m n⟩
theorem Wz.wide {v : Int} {x : Nat} (h : Wz .f32 v x) (hv : v.natAbs < 16777216) : Wz .f64 v (wid x) := by
  obtain ⟨s, m, rfl, rfl⟩ := h
  rw [sg_abs] at hv
  exact ⟨s, m, wid_w s m hv, rfl⟩
theorem Wz.fin {v : Int} {x : Nat} (h : Wz .f64 v x) (hv : v.natAbs < 16777216) : finB x = true := by
  obtain ⟨s, m, rfl, rfl⟩ := h
  rw [sg_abs] at hv
  obtain ⟨i, hi, -⟩ := read_nearest (fitK .f64) s m (by have := bK .f64; omega)
  have hd : FloatKind.f64.decode (wN .f64 s m) = .number s (m <<< i) (-(i : Int)) := hi
  unfold finB
  rw [hd]
theorem word_lt (s : Bool) (r : Nat) (h : r < 9223372036854775808) : FloatKind.f64.format.word s r < 2 ^ 64 := by
  have e : FloatKind.f64.format.signWeight = 9223372036854775808 := by decide
  unfold Ieee.Format.word
  cases s <;> simp [e] <;> omega
theorem Wz.lt {v : Int} {x : Nat} (h : Wz .f64 v x) : x < 2 ^ 64 := by
  obtain ⟨s, m, rfl, rfl⟩ := h
  show FloatKind.f64.format.nearest s m 0 < 2 ^ 64
  rw [nearest_word]
  have h1 := nearest_le FloatKind.f64.format m 0
  have h2 : FloatKind.f64.format.infRung < 9223372036854775808 := by decide
  exact word_lt s _ (by omega)
/-- two whole numbers that are the same are equal as floats -/
theorem Wz.eq {k : FloatKind} {v : Int} {x y : Nat} (hx : Wz k v x) (hy : Wz k v y) : k.format.order x y = some .eq := by
  obtain ⟨s, m, rfl, hv⟩ := hx
  obtain ⟨t, n, rfl, rfl⟩ := hy
  have hmn : m = n := by rw [← sg_abs s m, hv, sg_abs]
  subst hmn
  by_cases h0 : m = 0
  · subst h0
    cases k <;> cases s <;> cases t <;> decide
  · have : s = t := by
      cases s <;> cases t <;> simp [sg] at hv ⊢ <;> omega
    subst this
    exact order_self (wN_nan ..)
/-- quotients that come out whole, by one and by two -/
def dvOk (n : Nat) : Bool := (List.range 320).all fun q => [false, true].all fun s => [false, true].all fun t => floatBits .quo .f64 (wN .f64 s (n * q)) (wN .f64 t n) == some (wN .f64 (s ^^ t) q)
theorem dv1 : dvOk 1 = true := by kernel_rfl
theorem dv2 : dvOk 2 = true := by kernel_rfl
theorem dv (n : Nat) (hn : n = 1 ∨ n = 2) (q : Nat) (hq : q < 320) (s t : Bool) : floatBits .quo .f64 (wN .f64 s (n * q)) (wN .f64 t n) = some (wN .f64 (s ^^ t) q) := by
  have h : dvOk n = true := by rcases hn with rfl | rfl; exact dv1; exact dv2
  have h1 := List.all_eq_true.1 h q (List.mem_range.2 hq)
  have h2 := List.all_eq_true.1 h1 s (by cases s <;> simp)
  have h3 := List.all_eq_true.1 h2 t (by cases t <;> simp)
  simpa using h3
theorem Wz.quo {u v : Int} {x : Nat} (t : Bool) (n : Nat) (hn : n = 1 ∨ n = 2) (hx : Wz .f64 u x) (hu : u = sg t n * v) (hv : v.natAbs < 320) :
    ∃ z, fo .quo .f64 (some x) (some (wN .f64 t n)) = some z ∧ Wz .f64 v z := by
  obtain ⟨s, m, rfl, rfl⟩ := hx
  have hm : m = n * v.natAbs := by
    have := congrArg Int.natAbs hu
    rw [sg_abs, Int.natAbs_mul, sg_abs] at this; exact this
  subst hm
  refine ⟨_, dv n hn v.natAbs hv s t, _, _, rfl, ?_⟩
  rcases hn with rfl | rfl <;> cases s <;> cases t <;> simp [sg] at hu ⊢ <;> omega

theorem div0 (X Y : Int) (hX : X.natAbs < 320) (hY : Y.natAbs < 320) (a b : Nat) (ha : Wz .f64 (X * 1 - Y * 0) a) (hb : Wz .f64 (X * 0 + Y * 1) b) :
    qOk a b 4607182418800017408 0 = true ∧ (∃ z, qR a b 4607182418800017408 0 = some z ∧ Wz .f64 X z) ∧ ∃ z, qI a b 4607182418800017408 0 = some z ∧ Wz .f64 Y z := by
  have hq : qOk a b 4607182418800017408 0 = true := by
    unfold qOk
    rw [ha.fin (by omega), hb.fin (by omega)]
    decide +kernel
  have hg : absGe 4607182418800017408 0 = true := by decide +kernel
  have hc : fc .f64 4607182418800017408 = some 4607182418800017408 := fc_some (by decide +kernel)
  have hd : fc .f64 0 = some 0 := fc_some (by decide +kernel)
  have hr : fo .quo .f64 (some 0) (some 4607182418800017408) = some (wN .f64 false 0) := by decide +kernel
  have hp : fo .add .f64 (some 4607182418800017408) (fo .mul .f64 (some (wN .f64 false 0)) (some 0)) = some (wN .f64 false 1) := by decide +kernel
  have wr : Wz .f64 (0) (wN .f64 false 0) := ⟨false, 0, rfl, by decide⟩
  refine ⟨hq, ?_, ?_⟩
  · unfold qR
    rw [if_pos hq, hg, ha.fc, hb.fc]
    simp only [hc, hd]
    simp only [qRe, if_true, if_false, Bool.false_eq_true, hr, hp]
    obtain ⟨u, e1, w1⟩ := Wz.mul hb wr (by omega) (by omega)
    rw [e1]
    obtain ⟨x, e2, w2⟩ := Wz.add ha w1 (by omega) (by omega) (by omega)
    rw [e2]
    exact Wz.quo false 1 (by decide) w2 (by simp [sg]; try omega) hX
  · unfold qI
    rw [if_pos hq, hg, ha.fc, hb.fc]
    simp only [hc, hd]
    simp only [qIm, if_true, if_false, Bool.false_eq_true, hr, hp]
    obtain ⟨u, e1, w1⟩ := Wz.mul ha wr (by omega) (by omega)
    rw [e1]
    obtain ⟨x, e2, w2⟩ := Wz.sub hb w1 (by omega) (by omega) (by omega)
    rw [e2]
    exact Wz.quo false 1 (by decide) w2 (by simp [sg]; try omega) hY

theorem div1 (X Y : Int) (hX : X.natAbs < 320) (hY : Y.natAbs < 320) (a b : Nat) (ha : Wz .f64 (X * -1 - Y * 0) a) (hb : Wz .f64 (X * 0 + Y * -1) b) :
    qOk a b 13830554455654793216 0 = true ∧ (∃ z, qR a b 13830554455654793216 0 = some z ∧ Wz .f64 X z) ∧ ∃ z, qI a b 13830554455654793216 0 = some z ∧ Wz .f64 Y z := by
  have hq : qOk a b 13830554455654793216 0 = true := by
    unfold qOk
    rw [ha.fin (by omega), hb.fin (by omega)]
    decide +kernel
  have hg : absGe 13830554455654793216 0 = true := by decide +kernel
  have hc : fc .f64 13830554455654793216 = some 13830554455654793216 := fc_some (by decide +kernel)
  have hd : fc .f64 0 = some 0 := fc_some (by decide +kernel)
  have hr : fo .quo .f64 (some 0) (some 13830554455654793216) = some (wN .f64 true 0) := by decide +kernel
  have hp : fo .add .f64 (some 13830554455654793216) (fo .mul .f64 (some (wN .f64 true 0)) (some 0)) = some (wN .f64 true 1) := by decide +kernel
  have wr : Wz .f64 (0) (wN .f64 true 0) := ⟨true, 0, rfl, by decide⟩
  refine ⟨hq, ?_, ?_⟩
  · unfold qR
    rw [if_pos hq, hg, ha.fc, hb.fc]
    simp only [hc, hd]
    simp only [qRe, if_true, if_false, Bool.false_eq_true, hr, hp]
    obtain ⟨u, e1, w1⟩ := Wz.mul hb wr (by omega) (by omega)
    rw [e1]
    obtain ⟨x, e2, w2⟩ := Wz.add ha w1 (by omega) (by omega) (by omega)
    rw [e2]
    exact Wz.quo true 1 (by decide) w2 (by simp [sg]; try omega) hX
  · unfold qI
    rw [if_pos hq, hg, ha.fc, hb.fc]
    simp only [hc, hd]
    simp only [qIm, if_true, if_false, Bool.false_eq_true, hr, hp]
    obtain ⟨u, e1, w1⟩ := Wz.mul ha wr (by omega) (by omega)
    rw [e1]
    obtain ⟨x, e2, w2⟩ := Wz.sub hb w1 (by omega) (by omega) (by omega)
    rw [e2]
    exact Wz.quo true 1 (by decide) w2 (by simp [sg]; try omega) hY

theorem div2 (X Y : Int) (hX : X.natAbs < 320) (hY : Y.natAbs < 320) (a b : Nat) (ha : Wz .f64 (X * 0 - Y * 1) a) (hb : Wz .f64 (X * 1 + Y * 0) b) :
    qOk a b 0 4607182418800017408 = true ∧ (∃ z, qR a b 0 4607182418800017408 = some z ∧ Wz .f64 X z) ∧ ∃ z, qI a b 0 4607182418800017408 = some z ∧ Wz .f64 Y z := by
  have hq : qOk a b 0 4607182418800017408 = true := by
    unfold qOk
    rw [ha.fin (by omega), hb.fin (by omega)]
    decide +kernel
  have hg : absGe 0 4607182418800017408 = false := by decide +kernel
  have hc : fc .f64 0 = some 0 := fc_some (by decide +kernel)
  have hd : fc .f64 4607182418800017408 = some 4607182418800017408 := fc_some (by decide +kernel)
  have hr : fo .quo .f64 (some 0) (some 4607182418800017408) = some (wN .f64 false 0) := by decide +kernel
  have hp : fo .add .f64 (some 4607182418800017408) (fo .mul .f64 (some (wN .f64 false 0)) (some 0)) = some (wN .f64 false 1) := by decide +kernel
  have wr : Wz .f64 (0) (wN .f64 false 0) := ⟨false, 0, rfl, by decide⟩
  refine ⟨hq, ?_, ?_⟩
  · unfold qR
    rw [if_pos hq, hg, ha.fc, hb.fc]
    simp only [hc, hd]
    simp only [qRe, if_true, if_false, Bool.false_eq_true, hr, hp]
    obtain ⟨u, e1, w1⟩ := Wz.mul ha wr (by omega) (by omega)
    rw [e1]
    obtain ⟨x, e2, w2⟩ := Wz.add w1 hb (by omega) (by omega) (by omega)
    rw [e2]
    exact Wz.quo false 1 (by decide) w2 (by simp [sg]; try omega) hX
  · unfold qI
    rw [if_pos hq, hg, ha.fc, hb.fc]
    simp only [hc, hd]
    simp only [qIm, if_true, if_false, Bool.false_eq_true, hr, hp]
    obtain ⟨u, e1, w1⟩ := Wz.mul hb wr (by omega) (by omega)
    rw [e1]
    obtain ⟨x, e2, w2⟩ := Wz.sub w1 ha (by omega) (by omega) (by omega)
    rw [e2]
    exact Wz.quo false 1 (by decide) w2 (by simp [sg]; try omega) hY

theorem div3 (X Y : Int) (hX : X.natAbs < 320) (hY : Y.natAbs < 320) (a b : Nat) (ha : Wz .f64 (X * 1 - Y * 1) a) (hb : Wz .f64 (X * 1 + Y * 1) b) :
    qOk a b 4607182418800017408 4607182418800017408 = true ∧ (∃ z, qR a b 4607182418800017408 4607182418800017408 = some z ∧ Wz .f64 X z) ∧ ∃ z, qI a b 4607182418800017408 4607182418800017408 = some z ∧ Wz .f64 Y z := by
  have hq : qOk a b 4607182418800017408 4607182418800017408 = true := by
    unfold qOk
    rw [ha.fin (by omega), hb.fin (by omega)]
    decide +kernel
  have hg : absGe 4607182418800017408 4607182418800017408 = true := by decide +kernel
  have hc : fc .f64 4607182418800017408 = some 4607182418800017408 := fc_some (by decide +kernel)
  have hd : fc .f64 4607182418800017408 = some 4607182418800017408 := fc_some (by decide +kernel)
  have hr : fo .quo .f64 (some 4607182418800017408) (some 4607182418800017408) = some (wN .f64 false 1) := by decide +kernel
  have hp : fo .add .f64 (some 4607182418800017408) (fo .mul .f64 (some (wN .f64 false 1)) (some 4607182418800017408)) = some (wN .f64 false 2) := by decide +kernel
  have wr : Wz .f64 (1) (wN .f64 false 1) := ⟨false, 1, rfl, by decide⟩
  refine ⟨hq, ?_, ?_⟩
  · unfold qR
    rw [if_pos hq, hg, ha.fc, hb.fc]
    simp only [hc, hd]
    simp only [qRe, if_true, if_false, Bool.false_eq_true, hr, hp]
    obtain ⟨u, e1, w1⟩ := Wz.mul hb wr (by omega) (by omega)
    rw [e1]
    obtain ⟨x, e2, w2⟩ := Wz.add ha w1 (by omega) (by omega) (by omega)
    rw [e2]
    exact Wz.quo false 2 (by decide) w2 (by simp [sg]; try omega) hX
  · unfold qI
    rw [if_pos hq, hg, ha.fc, hb.fc]
    simp only [hc, hd]
    simp only [qIm, if_true, if_false, Bool.false_eq_true, hr, hp]
    obtain ⟨u, e1, w1⟩ := Wz.mul ha wr (by omega) (by omega)
    rw [e1]
    obtain ⟨x, e2, w2⟩ := Wz.sub hb w1 (by omega) (by omega) (by omega)
    rw [e2]
    exact Wz.quo false 2 (by decide) w2 (by simp [sg]; try omega) hY

theorem div4 (X Y : Int) (hX : X.natAbs < 320) (hY : Y.natAbs < 320) (a b : Nat) (ha : Wz .f64 (X * -1 - Y * 1) a) (hb : Wz .f64 (X * 1 + Y * -1) b) :
    qOk a b 13830554455654793216 4607182418800017408 = true ∧ (∃ z, qR a b 13830554455654793216 4607182418800017408 = some z ∧ Wz .f64 X z) ∧ ∃ z, qI a b 13830554455654793216 4607182418800017408 = some z ∧ Wz .f64 Y z := by
  have hq : qOk a b 13830554455654793216 4607182418800017408 = true := by
    unfold qOk
    rw [ha.fin (by omega), hb.fin (by omega)]
    decide +kernel
  have hg : absGe 13830554455654793216 4607182418800017408 = true := by decide +kernel
  have hc : fc .f64 13830554455654793216 = some 13830554455654793216 := fc_some (by decide +kernel)
  have hd : fc .f64 4607182418800017408 = some 4607182418800017408 := fc_some (by decide +kernel)
  have hr : fo .quo .f64 (some 4607182418800017408) (some 13830554455654793216) = some (wN .f64 true 1) := by decide +kernel
  have hp : fo .add .f64 (some 13830554455654793216) (fo .mul .f64 (some (wN .f64 true 1)) (some 4607182418800017408)) = some (wN .f64 true 2) := by decide +kernel
  have wr : Wz .f64 (-1) (wN .f64 true 1) := ⟨true, 1, rfl, by decide⟩
  refine ⟨hq, ?_, ?_⟩
  · unfold qR
    rw [if_pos hq, hg, ha.fc, hb.fc]
    simp only [hc, hd]
    simp only [qRe, if_true, if_false, Bool.false_eq_true, hr, hp]
    obtain ⟨u, e1, w1⟩ := Wz.mul hb wr (by omega) (by omega)
    rw [e1]
    obtain ⟨x, e2, w2⟩ := Wz.add ha w1 (by omega) (by omega) (by omega)
    rw [e2]
    exact Wz.quo true 2 (by decide) w2 (by simp [sg]; try omega) hX
  · unfold qI
    rw [if_pos hq, hg, ha.fc, hb.fc]
    simp only [hc, hd]
    simp only [qIm, if_true, if_false, Bool.false_eq_true, hr, hp]
    obtain ⟨u, e1, w1⟩ := Wz.mul ha wr (by omega) (by omega)
    rw [e1]
    obtain ⟨x, e2, w2⟩ := Wz.sub hb w1 (by omega) (by omega) (by omega)
    rw [e2]
    exact Wz.quo true 2 (by decide) w2 (by simp [sg]; try omega) hY

theorem div5 (X Y : Int) (hX : X.natAbs < 320) (hY : Y.natAbs < 320) (a b : Nat) (ha : Wz .f64 (X * 2 - Y * 0) a) (hb : Wz .f64 (X * 0 + Y * 2) b) :
    qOk a b 4611686018427387904 0 = true ∧ (∃ z, qR a b 4611686018427387904 0 = some z ∧ Wz .f64 X z) ∧ ∃ z, qI a b 4611686018427387904 0 = some z ∧ Wz .f64 Y z := by
  have hq : qOk a b 4611686018427387904 0 = true := by
    unfold qOk
    rw [ha.fin (by omega), hb.fin (by omega)]
    decide +kernel
  have hg : absGe 4611686018427387904 0 = true := by decide +kernel
  have hc : fc .f64 4611686018427387904 = some 4611686018427387904 := fc_some (by decide +kernel)
  have hd : fc .f64 0 = some 0 := fc_some (by decide +kernel)
  have hr : fo .quo .f64 (some 0) (some 4611686018427387904) = some (wN .f64 false 0) := by decide +kernel
  have hp : fo .add .f64 (some 4611686018427387904) (fo .mul .f64 (some (wN .f64 false 0)) (some 0)) = some (wN .f64 false 2) := by decide +kernel
  have wr : Wz .f64 (0) (wN .f64 false 0) := ⟨false, 0, rfl, by decide⟩
  refine ⟨hq, ?_, ?_⟩
  · unfold qR
    rw [if_pos hq, hg, ha.fc, hb.fc]
    simp only [hc, hd]
    simp only [qRe, if_true, if_false, Bool.false_eq_true, hr, hp]
    obtain ⟨u, e1, w1⟩ := Wz.mul hb wr (by omega) (by omega)
    rw [e1]
    obtain ⟨x, e2, w2⟩ := Wz.add ha w1 (by omega) (by omega) (by omega)
    rw [e2]
    exact Wz.quo false 2 (by decide) w2 (by simp [sg]; try omega) hX
  · unfold qI
    rw [if_pos hq, hg, ha.fc, hb.fc]
    simp only [hc, hd]
    simp only [qIm, if_true, if_false, Bool.false_eq_true, hr, hp]
    obtain ⟨u, e1, w1⟩ := Wz.mul ha wr (by omega) (by omega)
    rw [e1]
    obtain ⟨x, e2, w2⟩ := Wz.sub hb w1 (by omega) (by omega) (by omega)
    rw [e2]
    exact Wz.quo false 2 (by decide) w2 (by simp [sg]; try omega) hY

end Go.Proofs.Ytmhpfbcdikldcaa
