/- QuotWide of the program; no condition. -/
import Derived.Test.YtmhpfbcdikldcaaQu5
import Derived.Test.YtmhpfbcdikldcaaInv
namespace Go.Proofs.Ytmhpfbcdikldcaa
open Go.RowKit Go.ChangeShapes Go.WideShapes Go.ChangeAt
set_option linter.unusedVariables false
set_option linter.unusedSimpArgs false
set_option maxRecDepth 8000
structure Rqi (Wd : World) (a : Nat) (b : Nat) (c : Nat) (e : Nat) (d : Nat → Bool) (W : World) (v0 v1 v2 v3 v4 v5 v6 v7 v8 v9 : Value) (x : Nat) (y : Nat) (X : Nat) : Prop where
  bel : Below Wd.heap.size Wd W
  f0 : d 0 = true → v0 = .agg #[.float .f64 a, .float .f64 b]
  f1 : d 1 = true → v1 = .complex .f64 a b
  f2 : d 2 = true → v2 = .agg #[.float .f64 c, .float .f64 e]
  f3 : d 3 = true → v3 = .complex .f64 c e
  f4 : d 4 = true → v4 = .tuple #[.complex .f64 x y, .bool (qOk a b c e)]
  f5 : d 5 = true → v5 = .tuple #[.complex .f64 x y, .bool (qOk a b c e)]
  f6 : d 6 = true → v6 = .complex .f64 x y
  f7 : d 7 = true → v7 = .bool (qOk a b c e)
  f8 : d 8 = true → v8 = .complex .f64 x y
  f9 : d 9 = true → v9 = .bool (qOk a b c e)
  hx : d 4 = true → fc .f64 x = qR a b c e
  hy : d 4 = true → fc .f64 y = qI a b c e
  g5_4 : d 5 = true → d 4 = true
  g6_4 : d 6 = true → d 4 = true
  g8_4 : d 8 = true → d 4 = true
def RqiS (Wd : World) (a : Nat) (b : Nat) (c : Nat) (e : Nat) (d : Nat → Bool) (q : List Value) (W : World) : Prop := ∃ v0 v1 v2 v3 v4 v5 v6 v7 v8 v9 x y X, q = [v0, v1, v2, v3, v4, v5, v6, v7, v8, v9] ∧ Rqi Wd a b c e d W v0 v1 v2 v3 v4 v5 v6 v7 v8 v9 x y X
theorem Rqi.below {Wd : World} {a : Nat} {b : Nat} {c : Nat} {e : Nat} {d : Nat → Bool} {W W' : World} {v0 v1 v2 v3 v4 v5 v6 v7 v8 v9 : Value} {x : Nat} {y : Nat} {X : Nat} (h : Rqi Wd a b c e d W v0 v1 v2 v3 v4 v5 v6 v7 v8 v9 x y X) (hb : Below W.heap.size W W') : Rqi Wd a b c e d W' v0 v1 v2 v3 v4 v5 v6 v7 v8 v9 x y X :=
  { h with
    bel := belowCall h.bel hb h.bel.size
  }
set_option maxHeartbeats 3200000 in
theorem quotI_c (a b c z : Nat) (ha : a < 2 ^ 64) (hb : b < 2 ^ 64) (hc : c < 2 ^ 64) (hz : z < 2 ^ 64) (w : World) : Calls Try.prog 19 #[.agg #[.float .f64 a, .float .f64 b], .agg #[.float .f64 c, .float .f64 z]] w (QwR a b c z w) := by
  have HLT : Hid (a < 2 ^ 64 ∧ b < 2 ^ 64 ∧ c < 2 ^ 64 ∧ z < 2 ^ 64) := ⟨ha, hb, hc, hz⟩
  clear ha hb hc hz
  have hsf := storeF
  obtain ⟨W0, hW0⟩ : ∃ W, ((w.alloc (Obj.cells #[.float .f64 a, .float .f64 b] 34)).alloc (Obj.cells #[.float .f64 c, .float .f64 z] 34)).alloc (Obj.cells #[.float .f64 0, .float .f64 0] 34) = W := ⟨_, rfl⟩
  have HW0 : Hid (((w.alloc (Obj.cells #[.float .f64 a, .float .f64 b] 34)).alloc (Obj.cells #[.float .f64 c, .float .f64 z] 34)).alloc (Obj.cells #[.float .f64 0, .float .f64 0] 34) = W0) := hW0
  have HB0 : Hid (Below w.heap.size w W0) := by rw [← hW0]; exact (((Below.refl _ _).alloc (Nat.le_refl _) _).alloc (by simp) _).alloc (by simp; omega) _
  have HK0 : Hid (Blk W0 w.heap.size #[.float .f64 a, .float .f64 b] 34) := by rw [← hW0]; exact ((Blk.new _ _ _).alloc _).alloc _
  have HK1 : Hid (Blk W0 (w.heap.size + 1) #[.float .f64 c, .float .f64 z] 34) := by rw [← hW0]; exact (Blk.newAt _ _ _ _ (by simp)).alloc _
  have HK2 : Hid (Blk W0 (w.heap.size + 1 + 1) #[.float .f64 0, .float .f64 0] 34) := by rw [← hW0]; exact Blk.newAt _ _ _ _ (by simp)
  clear hW0
  have HCE : Hid (∀ U, Below W0.heap.size W0 U → U.cell? ⟨w.heap.size, 0, none⟩ = some (.float .f64 a) ∧ U.cell? ⟨w.heap.size, 1, none⟩ = some (.float .f64 b) ∧ U.cell? ⟨w.heap.size + 1, 0, none⟩ = some (.float .f64 c) ∧ U.cell? ⟨w.heap.size + 1, 1, none⟩ = some (.float .f64 z)) := fun U hU => ⟨by rw [(HK0.out.below hU HK0.out.lt).cell]; rfl, by rw [(HK0.out.below hU HK0.out.lt).cell]; rfl, by rw [(HK1.out.below hU HK1.out.lt).cell]; rfl, by rw [(HK1.out.below hU HK1.out.lt).cell]; rfl⟩
  go_enter Try.func19, Try.ntmps19
  go_wp2
  rw [HW0.out]
  have CE : Hid (∀ U, Below W0.drew.heap.size W0.drew U → U.cell? ⟨w.heap.size, 0, none⟩ = some (.float .f64 a) ∧ U.cell? ⟨w.heap.size, 1, none⟩ = some (.float .f64 b) ∧ U.cell? ⟨w.heap.size + 1, 0, none⟩ = some (.float .f64 c) ∧ U.cell? ⟨w.heap.size + 1, 1, none⟩ = some (.float .f64 z)) := fun U hU => HCE.out U ((Below.refl W0.heap.size W0).drew.trans hU)
  refine region_vals [undef, undef, undef, undef, undef, undef, undef, undef, undef, undef] (RqiS (W0.drew) (a) (b) (c) (z)) (by kernel_rfl) (by kernel_rfl) ?_ ⟨?_, ?_, ?_, ?_, ?_, ?_, ?_, ?_, ?_, ?_, trivial⟩ ?_
  · refine ⟨_, _, _, _, _, _, _, _, _, _, 0, 0, 0, rfl, ⟨(Below.refl _ _), ?_, ?_, ?_, ?_, ?_, ?_, ?_, ?_, ?_, ?_, ?_, ?_, ?_, ?_, ?_⟩⟩ <;> simp
  · rintro d vs W ⟨v0, v1, v2, v3, v4, v5, v6, v7, v8, v9, x, y, X, rfl, H⟩ hn hd
    simp only [putAll, Act.put, List.setIfInBounds_toArray, List.set_cons_succ, List.set_cons_zero]
    obtain ⟨q0, q1, q2, q3⟩ := CE.out W H.bel
    have HH1 : Hid (Rqi (W0.drew) (a) (b) (c) (z) d W v0 v1 v2 v3 v4 v5 v6 v7 v8 v9 x y X) := H
    clear H
    have HHN : Hid (d 0 = false) := hn
    clear hd hn q2 q3
    go_wp2
    have H0 := HH1.out
    have H := HH1.out
    have hn := HHN.out
    refine ⟨rfl, [.agg #[.float .f64 a, .float .f64 b], v1, v2, v3, v4, v5, v6, v7, v8, v9], ?_, .agg #[.float .f64 a, .float .f64 b], v1, v2, v3, v4, v5, v6, v7, v8, v9, x, y, X, rfl, ⟨H.bel, (fun _ => rfl), (by have h := H.f1; simpa [doneSet] using h), (by have h := H.f2; simpa [doneSet] using h), (by have h := H.f3; simpa [doneSet] using h), (by have h := H.f4; simpa [doneSet] using h), (by have h := H.f5; simpa [doneSet] using h), (by have h := H.f6; simpa [doneSet] using h), (by have h := H.f7; simpa [doneSet] using h), (by have h := H.f8; simpa [doneSet] using h), (by have h := H.f9; simpa [doneSet] using h), (by have h := H.hx; simpa [doneSet] using h), (by have h := H.hy; simpa [doneSet] using h), (by have h := H.g5_4; simpa [doneSet] using h), (by have h := H.g6_4; simpa [doneSet] using h), (by have h := H.g8_4; simpa [doneSet] using h)⟩⟩
    simp only [putAll, Act.put, List.setIfInBounds_toArray, List.set_cons_succ, List.set_cons_zero]
    all_goals rfl
  · rintro d vs W ⟨v0, v1, v2, v3, v4, v5, v6, v7, v8, v9, x, y, X, rfl, H⟩ hn hd
    simp only [putAll, Act.put, List.setIfInBounds_toArray, List.set_cons_succ, List.set_cons_zero]
    have h0 : d 0 = true := hd { on := 0, ground := .data } (by simp) rfl
    obtain rfl := H.f0 h0
    have HH1 : Hid (Rqi (W0.drew) (a) (b) (c) (z) d W (.agg #[.float .f64 a, .float .f64 b]) v1 v2 v3 v4 v5 v6 v7 v8 v9 x y X) := H
    clear H
    have HHN : Hid (d 1 = false) := hn
    have HHD : Hid (d 0 = true) := h0
    clear hd hn h0
    go_wp2_with (fail)
    refine (inDouble_c a b W).mono ?_
    rintro e W3 ⟨rfl, b7⟩
    have HB7 : Hid (Below W.heap.size W W3) := b7
    clear b7
    go_wp2
    have H0 := HH1.out
    have H := HH1.out.below HB7.out
    have hn := HHN.out
    have h0 := HHD.out
    refine ⟨rfl, [.agg #[.float .f64 a, .float .f64 b], .complex .f64 a b, v2, v3, v4, v5, v6, v7, v8, v9], ?_, .agg #[.float .f64 a, .float .f64 b], .complex .f64 a b, v2, v3, v4, v5, v6, v7, v8, v9, x, y, X, rfl, ⟨H.bel, (fun _ => rfl), (fun _ => rfl), (by have h := H.f2; simpa [doneSet] using h), (by have h := H.f3; simpa [doneSet] using h), (by have h := H.f4; simpa [doneSet] using h), (by have h := H.f5; simpa [doneSet] using h), (by have h := H.f6; simpa [doneSet] using h), (by have h := H.f7; simpa [doneSet] using h), (by have h := H.f8; simpa [doneSet] using h), (by have h := H.f9; simpa [doneSet] using h), (by have h := H.hx; simpa [doneSet] using h), (by have h := H.hy; simpa [doneSet] using h), (by have h := H.g5_4; simpa [doneSet] using h), (by have h := H.g6_4; simpa [doneSet] using h), (by have h := H.g8_4; simpa [doneSet] using h)⟩⟩
    simp only [putAll, Act.put, List.setIfInBounds_toArray, List.set_cons_succ, List.set_cons_zero]
    all_goals rfl
  · rintro d vs W ⟨v0, v1, v2, v3, v4, v5, v6, v7, v8, v9, x, y, X, rfl, H⟩ hn hd
    simp only [putAll, Act.put, List.setIfInBounds_toArray, List.set_cons_succ, List.set_cons_zero]
    obtain ⟨q0, q1, q2, q3⟩ := CE.out W H.bel
    have HH1 : Hid (Rqi (W0.drew) (a) (b) (c) (z) d W v0 v1 v2 v3 v4 v5 v6 v7 v8 v9 x y X) := H
    clear H
    have HHN : Hid (d 2 = false) := hn
    clear hd hn q0 q1
    go_wp2
    have H0 := HH1.out
    have H := HH1.out
    have hn := HHN.out
    refine ⟨rfl, [v0, v1, .agg #[.float .f64 c, .float .f64 z], v3, v4, v5, v6, v7, v8, v9], ?_, v0, v1, .agg #[.float .f64 c, .float .f64 z], v3, v4, v5, v6, v7, v8, v9, x, y, X, rfl, ⟨H.bel, (by have h := H.f0; simpa [doneSet] using h), (by have h := H.f1; simpa [doneSet] using h), (fun _ => rfl), (by have h := H.f3; simpa [doneSet] using h), (by have h := H.f4; simpa [doneSet] using h), (by have h := H.f5; simpa [doneSet] using h), (by have h := H.f6; simpa [doneSet] using h), (by have h := H.f7; simpa [doneSet] using h), (by have h := H.f8; simpa [doneSet] using h), (by have h := H.f9; simpa [doneSet] using h), (by have h := H.hx; simpa [doneSet] using h), (by have h := H.hy; simpa [doneSet] using h), (by have h := H.g5_4; simpa [doneSet] using h), (by have h := H.g6_4; simpa [doneSet] using h), (by have h := H.g8_4; simpa [doneSet] using h)⟩⟩
    simp only [putAll, Act.put, List.setIfInBounds_toArray, List.set_cons_succ, List.set_cons_zero]
    all_goals rfl
  · rintro d vs W ⟨v0, v1, v2, v3, v4, v5, v6, v7, v8, v9, x, y, X, rfl, H⟩ hn hd
    simp only [putAll, Act.put, List.setIfInBounds_toArray, List.set_cons_succ, List.set_cons_zero]
    have h2 : d 2 = true := hd { on := 2, ground := .data } (by simp) rfl
    obtain rfl := H.f2 h2
    have HH1 : Hid (Rqi (W0.drew) (a) (b) (c) (z) d W v0 v1 (.agg #[.float .f64 c, .float .f64 z]) v3 v4 v5 v6 v7 v8 v9 x y X) := H
    clear H
    have HHN : Hid (d 3 = false) := hn
    have HHD : Hid (d 2 = true) := h2
    clear hd hn h2
    go_wp2_with (fail)
    refine (inDouble_c c z W).mono ?_
    rintro e W3 ⟨rfl, b7⟩
    have HB7 : Hid (Below W.heap.size W W3) := b7
    clear b7
    go_wp2
    have H0 := HH1.out
    have H := HH1.out.below HB7.out
    have hn := HHN.out
    have h2 := HHD.out
    refine ⟨rfl, [v0, v1, .agg #[.float .f64 c, .float .f64 z], .complex .f64 c z, v4, v5, v6, v7, v8, v9], ?_, v0, v1, .agg #[.float .f64 c, .float .f64 z], .complex .f64 c z, v4, v5, v6, v7, v8, v9, x, y, X, rfl, ⟨H.bel, (by have h := H.f0; simpa [doneSet] using h), (by have h := H.f1; simpa [doneSet] using h), (fun _ => rfl), (fun _ => rfl), (by have h := H.f4; simpa [doneSet] using h), (by have h := H.f5; simpa [doneSet] using h), (by have h := H.f6; simpa [doneSet] using h), (by have h := H.f7; simpa [doneSet] using h), (by have h := H.f8; simpa [doneSet] using h), (by have h := H.f9; simpa [doneSet] using h), (by have h := H.hx; simpa [doneSet] using h), (by have h := H.hy; simpa [doneSet] using h), (by have h := H.g5_4; simpa [doneSet] using h), (by have h := H.g6_4; simpa [doneSet] using h), (by have h := H.g8_4; simpa [doneSet] using h)⟩⟩
    simp only [putAll, Act.put, List.setIfInBounds_toArray, List.set_cons_succ, List.set_cons_zero]
    all_goals rfl
  · rintro d vs W ⟨v0, v1, v2, v3, v4, v5, v6, v7, v8, v9, x, y, X, rfl, H⟩ hn hd
    simp only [putAll, Act.put, List.setIfInBounds_toArray, List.set_cons_succ, List.set_cons_zero]
    have h1 : d 1 = true := hd { on := 1, ground := .data } (by simp) rfl
    have h3 : d 3 = true := hd { on := 3, ground := .data } (by simp) rfl
    obtain rfl := H.f1 h1
    obtain rfl := H.f3 h3
    have HH1 : Hid (Rqi (W0.drew) (a) (b) (c) (z) d W v0 (.complex .f64 a b) v2 (.complex .f64 c z) v4 v5 v6 v7 v8 v9 x y X) := H
    clear H
    have HHN : Hid (d 4 = false) := hn
    have HHD : Hid (d 1 = true ∧ d 3 = true) := ⟨h1, h3⟩
    clear hd hn h1 h3
    go_wp2_with (fail)
    refine (quotOf_c a b c z HLT.out.1 HLT.out.2.1 HLT.out.2.2.1 HLT.out.2.2.2 W).mono ?_
    rintro e W3 ⟨x4, y4, n4, rfl, hx4, hy4, b7⟩
    have HB7 : Hid (Below W.heap.size W W3) := by rw [b7]; exact below_drewN (Below.refl _ _) _
    have HX4 : Hid (fc .f64 x4 = qR a b c z) := hx4
    have HY4 : Hid (fc .f64 y4 = qI a b c z) := hy4
    clear b7 hx4 hy4
    go_wp2
    have H0 := HH1.out
    have H := HH1.out.below HB7.out
    have hn := HHN.out
    have h1 := HHD.out.1
    have h3 := HHD.out.2
    refine ⟨rfl, [v0, .complex .f64 a b, v2, .complex .f64 c z, .tuple #[.complex .f64 x4 y4, .bool (qOk a b c z)], v5, v6, v7, v8, v9], ?_, v0, .complex .f64 a b, v2, .complex .f64 c z, .tuple #[.complex .f64 x4 y4, .bool (qOk a b c z)], v5, v6, v7, v8, v9, x4, y4, X, rfl, ⟨H.bel, (by have h := H.f0; simpa [doneSet] using h), (fun _ => rfl), (by have h := H.f2; simpa [doneSet] using h), (fun _ => rfl), (fun _ => rfl), (fun e => absurd (H0.g5_4 (by simpa [doneSet] using e)) (by rw [hn]; simp)), (fun e => absurd (H0.g6_4 (by simpa [doneSet] using e)) (by rw [hn]; simp)), (by have h := H.f7; simpa [doneSet] using h), (fun e => absurd (H0.g8_4 (by simpa [doneSet] using e)) (by rw [hn]; simp)), (by have h := H.f9; simpa [doneSet] using h), (fun _ => HX4.out), (fun _ => HY4.out), (fun _ => by simp [doneSet]), (fun _ => by simp [doneSet]), (fun _ => by simp [doneSet])⟩⟩
    simp only [putAll, Act.put, List.setIfInBounds_toArray, List.set_cons_succ, List.set_cons_zero]
    all_goals rfl
  · rintro d vs W ⟨v0, v1, v2, v3, v4, v5, v6, v7, v8, v9, x, y, X, rfl, H⟩ hn hd
    simp only [putAll, Act.put, List.setIfInBounds_toArray, List.set_cons_succ, List.set_cons_zero]
    have h4 : d 4 = true := hd { on := 4, ground := .data } (by simp) rfl
    obtain rfl := H.f4 h4
    have HH1 : Hid (Rqi (W0.drew) (a) (b) (c) (z) d W v0 v1 v2 v3 (.tuple #[.complex .f64 x y, .bool (qOk a b c z)]) v5 v6 v7 v8 v9 x y X) := H
    clear H
    have HHN : Hid (d 5 = false) := hn
    have HHD : Hid (d 4 = true) := h4
    clear hd hn h4
    go_wp2
    have H0 := HH1.out
    have H := HH1.out
    have hn := HHN.out
    have h4 := HHD.out
    refine ⟨rfl, [v0, v1, v2, v3, .tuple #[.complex .f64 x y, .bool (qOk a b c z)], .tuple #[.complex .f64 x y, .bool (qOk a b c z)], v6, v7, v8, v9], ?_, v0, v1, v2, v3, .tuple #[.complex .f64 x y, .bool (qOk a b c z)], .tuple #[.complex .f64 x y, .bool (qOk a b c z)], v6, v7, v8, v9, x, y, X, rfl, ⟨H.bel, (by have h := H.f0; simpa [doneSet] using h), (by have h := H.f1; simpa [doneSet] using h), (by have h := H.f2; simpa [doneSet] using h), (by have h := H.f3; simpa [doneSet] using h), (fun _ => rfl), (fun _ => rfl), (by have h := H.f6; simpa [doneSet] using h), (by have h := H.f7; simpa [doneSet] using h), (by have h := H.f8; simpa [doneSet] using h), (by have h := H.f9; simpa [doneSet] using h), (by have h := H.hx; simpa [doneSet] using h), (by have h := H.hy; simpa [doneSet] using h), (fun _ => by simpa [doneSet] using h4), (by have h := H.g6_4; simpa [doneSet] using h), (by have h := H.g8_4; simpa [doneSet] using h)⟩⟩
    simp only [putAll, Act.put, List.setIfInBounds_toArray, List.set_cons_succ, List.set_cons_zero]
    all_goals rfl
  · rintro d vs W ⟨v0, v1, v2, v3, v4, v5, v6, v7, v8, v9, x, y, X, rfl, H⟩ hn hd
    simp only [putAll, Act.put, List.setIfInBounds_toArray, List.set_cons_succ, List.set_cons_zero]
    have h5 : d 5 = true := hd { on := 5, ground := .data } (by simp) rfl
    have h4 := H.g5_4 h5
    obtain rfl := H.f5 h5
    have HH1 : Hid (Rqi (W0.drew) (a) (b) (c) (z) d W v0 v1 v2 v3 v4 (.tuple #[.complex .f64 x y, .bool (qOk a b c z)]) v6 v7 v8 v9 x y X) := H
    clear H
    have HHN : Hid (d 6 = false) := hn
    have HHD : Hid (d 5 = true) := h5
    clear hd hn h5
    go_wp2
    have H0 := HH1.out
    have H := HH1.out
    have hn := HHN.out
    have h5 := HHD.out
    refine ⟨rfl, [v0, v1, v2, v3, v4, .tuple #[.complex .f64 x y, .bool (qOk a b c z)], .complex .f64 x y, v7, v8, v9], ?_, v0, v1, v2, v3, v4, .tuple #[.complex .f64 x y, .bool (qOk a b c z)], .complex .f64 x y, v7, v8, v9, x, y, X, rfl, ⟨H.bel, (by have h := H.f0; simpa [doneSet] using h), (by have h := H.f1; simpa [doneSet] using h), (by have h := H.f2; simpa [doneSet] using h), (by have h := H.f3; simpa [doneSet] using h), (by have h := H.f4; simpa [doneSet] using h), (fun _ => rfl), (fun _ => rfl), (by have h := H.f7; simpa [doneSet] using h), (by have h := H.f8; simpa [doneSet] using h), (by have h := H.f9; simpa [doneSet] using h), (by have h := H.hx; simpa [doneSet] using h), (by have h := H.hy; simpa [doneSet] using h), (by have h := H.g5_4; simpa [doneSet] using h), (fun _ => by simpa [doneSet] using h4), (by have h := H.g8_4; simpa [doneSet] using h)⟩⟩
    simp only [putAll, Act.put, List.setIfInBounds_toArray, List.set_cons_succ, List.set_cons_zero]
    all_goals rfl
  · rintro d vs W ⟨v0, v1, v2, v3, v4, v5, v6, v7, v8, v9, x, y, X, rfl, H⟩ hn hd
    simp only [putAll, Act.put, List.setIfInBounds_toArray, List.set_cons_succ, List.set_cons_zero]
    have h5 : d 5 = true := hd { on := 5, ground := .data } (by simp) rfl
    obtain rfl := H.f5 h5
    have HH1 : Hid (Rqi (W0.drew) (a) (b) (c) (z) d W v0 v1 v2 v3 v4 (.tuple #[.complex .f64 x y, .bool (qOk a b c z)]) v6 v7 v8 v9 x y X) := H
    clear H
    have HHN : Hid (d 7 = false) := hn
    have HHD : Hid (d 5 = true) := h5
    clear hd hn h5
    go_wp2
    have H0 := HH1.out
    have H := HH1.out
    have hn := HHN.out
    have h5 := HHD.out
    refine ⟨rfl, [v0, v1, v2, v3, v4, .tuple #[.complex .f64 x y, .bool (qOk a b c z)], v6, .bool (qOk a b c z), v8, v9], ?_, v0, v1, v2, v3, v4, .tuple #[.complex .f64 x y, .bool (qOk a b c z)], v6, .bool (qOk a b c z), v8, v9, x, y, X, rfl, ⟨H.bel, (by have h := H.f0; simpa [doneSet] using h), (by have h := H.f1; simpa [doneSet] using h), (by have h := H.f2; simpa [doneSet] using h), (by have h := H.f3; simpa [doneSet] using h), (by have h := H.f4; simpa [doneSet] using h), (fun _ => rfl), (by have h := H.f6; simpa [doneSet] using h), (fun _ => rfl), (by have h := H.f8; simpa [doneSet] using h), (by have h := H.f9; simpa [doneSet] using h), (by have h := H.hx; simpa [doneSet] using h), (by have h := H.hy; simpa [doneSet] using h), (by have h := H.g5_4; simpa [doneSet] using h), (by have h := H.g6_4; simpa [doneSet] using h), (by have h := H.g8_4; simpa [doneSet] using h)⟩⟩
    simp only [putAll, Act.put, List.setIfInBounds_toArray, List.set_cons_succ, List.set_cons_zero]
    all_goals rfl
  · rintro d vs W ⟨v0, v1, v2, v3, v4, v5, v6, v7, v8, v9, x, y, X, rfl, H⟩ hn hd
    simp only [putAll, Act.put, List.setIfInBounds_toArray, List.set_cons_succ, List.set_cons_zero]
    have h6 : d 6 = true := hd { on := 6, ground := .data } (by simp) rfl
    have h4 := H.g6_4 h6
    obtain rfl := H.f6 h6
    have HH1 : Hid (Rqi (W0.drew) (a) (b) (c) (z) d W v0 v1 v2 v3 v4 v5 (.complex .f64 x y) v7 v8 v9 x y X) := H
    clear H
    have HHN : Hid (d 8 = false) := hn
    have HHD : Hid (d 6 = true) := h6
    clear hd hn h6
    go_wp2
    have H0 := HH1.out
    have H := HH1.out
    have hn := HHN.out
    have h6 := HHD.out
    refine ⟨rfl, [v0, v1, v2, v3, v4, v5, .complex .f64 x y, v7, .complex .f64 x y, v9], ?_, v0, v1, v2, v3, v4, v5, .complex .f64 x y, v7, .complex .f64 x y, v9, x, y, X, rfl, ⟨H.bel, (by have h := H.f0; simpa [doneSet] using h), (by have h := H.f1; simpa [doneSet] using h), (by have h := H.f2; simpa [doneSet] using h), (by have h := H.f3; simpa [doneSet] using h), (by have h := H.f4; simpa [doneSet] using h), (by have h := H.f5; simpa [doneSet] using h), (fun _ => rfl), (by have h := H.f7; simpa [doneSet] using h), (fun _ => rfl), (by have h := H.f9; simpa [doneSet] using h), (by have h := H.hx; simpa [doneSet] using h), (by have h := H.hy; simpa [doneSet] using h), (by have h := H.g5_4; simpa [doneSet] using h), (by have h := H.g6_4; simpa [doneSet] using h), (fun _ => by simpa [doneSet] using h4)⟩⟩
    simp only [putAll, Act.put, List.setIfInBounds_toArray, List.set_cons_succ, List.set_cons_zero]
    all_goals rfl
  · rintro d vs W ⟨v0, v1, v2, v3, v4, v5, v6, v7, v8, v9, x, y, X, rfl, H⟩ hn hd
    simp only [putAll, Act.put, List.setIfInBounds_toArray, List.set_cons_succ, List.set_cons_zero]
    have h7 : d 7 = true := hd { on := 7, ground := .data } (by simp) rfl
    obtain rfl := H.f7 h7
    have HH1 : Hid (Rqi (W0.drew) (a) (b) (c) (z) d W v0 v1 v2 v3 v4 v5 v6 (.bool (qOk a b c z)) v8 v9 x y X) := H
    clear H
    have HHN : Hid (d 9 = false) := hn
    have HHD : Hid (d 7 = true) := h7
    clear hd hn h7
    go_wp2
    have H0 := HH1.out
    have H := HH1.out
    have hn := HHN.out
    have h7 := HHD.out
    refine ⟨rfl, [v0, v1, v2, v3, v4, v5, v6, .bool (qOk a b c z), v8, .bool (qOk a b c z)], ?_, v0, v1, v2, v3, v4, v5, v6, .bool (qOk a b c z), v8, .bool (qOk a b c z), x, y, X, rfl, ⟨H.bel, (by have h := H.f0; simpa [doneSet] using h), (by have h := H.f1; simpa [doneSet] using h), (by have h := H.f2; simpa [doneSet] using h), (by have h := H.f3; simpa [doneSet] using h), (by have h := H.f4; simpa [doneSet] using h), (by have h := H.f5; simpa [doneSet] using h), (by have h := H.f6; simpa [doneSet] using h), (fun _ => rfl), (by have h := H.f8; simpa [doneSet] using h), (fun _ => rfl), (by have h := H.hx; simpa [doneSet] using h), (by have h := H.hy; simpa [doneSet] using h), (by have h := H.g5_4; simpa [doneSet] using h), (by have h := H.g6_4; simpa [doneSet] using h), (by have h := H.g8_4; simpa [doneSet] using h)⟩⟩
    simp only [putAll, Act.put, List.setIfInBounds_toArray, List.set_cons_succ, List.set_cons_zero]
    all_goals rfl
  rintro d' vs W ⟨v0, v1, v2, v3, v4, v5, v6, v7, v8, v9, x, y, X, rfl, H⟩ hn
  obtain rfl := H.f0 (hn 0 (by decide))
  obtain rfl := H.f1 (hn 1 (by decide))
  obtain rfl := H.f2 (hn 2 (by decide))
  obtain rfl := H.f3 (hn 3 (by decide))
  obtain rfl := H.f4 (hn 4 (by decide))
  obtain rfl := H.f5 (hn 5 (by decide))
  obtain rfl := H.f6 (hn 6 (by decide))
  obtain rfl := H.f7 (hn 7 (by decide))
  obtain rfl := H.f8 (hn 8 (by decide))
  obtain rfl := H.f9 (hn 9 (by decide))
  have HX : Hid (fc .f64 x = qR a b c z) := H.hx (hn 4 (by decide))
  have HY : Hid (fc .f64 y = qI a b c z) := H.hy (hn 4 (by decide))
  have HU : Hid (Below W0.heap.size W0 W) := (Below.refl _ _).drew.trans H.bel
  clear H hn CE HCE
  simp only [putAll, Act.put, List.setIfInBounds_toArray, List.set_cons_succ, List.set_cons_zero]
  go_wp2_with (fail)
  refine (wideOf_c _ _ _).mono ?_
  rintro e w3 ⟨rfl, b3⟩
  have HB3 : Hid (Below W0.heap.size W0 w3) := HU.out.trans (b3.mono HU.out.size)
  have HK3 := HK2.out.below HB3.out HK2.out.lt
  have HK4 : Hid (Blk w3 (w.heap.size + 1 + 1) #[.float .f64 0, .float .f64 0] 34) := HK3
  have z0 := HK3.cell 0
  have z1 := HK3.cell 1
  have f0 := HK3.frozen 0
  have f1 := HK3.frozen 1
  simp at z0 z1
  clear b3 HK3
  go_wp2
  exact bodyPost_ret (results_W2 rfl _ _ _ _ _ _ rfl rfl (Blk.set2 HK4.out _ _)) rfl ⟨_, _, rfl, HX.out, HY.out, below_set2 (belowCall HB0.out HB3.out HB0.out.size) _ (by omega) _ _⟩

end Go.Proofs.Ytmhpfbcdikldcaa
