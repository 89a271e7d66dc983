/- The walk of the law of QuotWide; no condition. -/
import Derived.Test.YtfbegonnbdakpaaQu6
namespace Go.Proofs.Ytfbegonnbdakpaa
open Go.RowKit Go.ChangeShapes Go.WideShapes Go.ChangeAt
set_option linter.unusedVariables false
set_option linter.unusedSimpArgs false
set_option maxRecDepth 8000
structure Rql (Wd : World) (a : Nat) (b : Nat) (c : Nat) (e : Nat) (d : Nat → Bool) (W : World) (v0 v1 v2 v3 v4 v5 v6 v7 v8 v9 v10 : Value) (x : Nat) (y : Nat) (X : Nat) : Prop where
  bel : Below Wd.heap.size Wd W
  f0 : d 0 = true → v0 = .agg #[.float .f64 a, .float .f64 b]
  f1 : d 1 = true → v1 = .agg #[.float .f64 a, .float .f64 b]
  f2 : d 2 = true → v2 = .agg #[.float .f64 c, .float .f64 e]
  f3 : d 3 = true → v3 = .agg #[.float .f64 c, .float .f64 e]
  f4 : d 4 = true → v4 = .tuple #[.agg #[.float .f64 x, .float .f64 y], .bool (qOk a b c e)]
  f5 : d 5 = true → v5 = .tuple #[.agg #[.float .f64 x, .float .f64 y], .bool (qOk a b c e)]
  f6 : d 6 = true → v6 = .agg #[.float .f64 x, .float .f64 y]
  f7 : d 7 = true → v7 = .bool (qOk a b c e)
  f8 : d 8 = true → v8 = .pointer (some ⟨X, 0, none⟩)
  f10 : d 10 = true → v10 = .bool (qOk a b c e)
  hx : d 4 = true → fc .f64 x = qR a b c e
  hy : d 4 = true → fc .f64 y = qI a b c e
  k8 : d 8 = true → d 9 = false → Blk W X #[.float .f64 0, .float .f64 0] 30
  x8 : d 8 = true → Wd.heap.size ≤ X
  k9 : d 9 = true → Blk W X #[.float .f64 x, .float .f64 y] 30
  g5_4 : d 5 = true → d 4 = true
  g6_4 : d 6 = true → d 4 = true
  g9_4 : d 9 = true → d 4 = true
  g9_8 : d 9 = true → d 8 = true
def RqlS (Wd : World) (a : Nat) (b : Nat) (c : Nat) (e : Nat) (d : Nat → Bool) (q : List Value) (W : World) : Prop := ∃ v0 v1 v2 v3 v4 v5 v6 v7 v8 v9 v10 x y X, q = [v0, v1, v2, v3, v4, v5, v6, v7, v8, v9, v10] ∧ Rql Wd a b c e d W v0 v1 v2 v3 v4 v5 v6 v7 v8 v9 v10 x y X
theorem Rql.below {Wd : World} {a : Nat} {b : Nat} {c : Nat} {e : Nat} {d : Nat → Bool} {W W' : World} {v0 v1 v2 v3 v4 v5 v6 v7 v8 v9 v10 : Value} {x : Nat} {y : Nat} {X : Nat} (h : Rql Wd a b c e d W v0 v1 v2 v3 v4 v5 v6 v7 v8 v9 v10 x y X) (hb : Below W.heap.size W W') : Rql Wd a b c e d W' v0 v1 v2 v3 v4 v5 v6 v7 v8 v9 v10 x y X :=
  { h with
    bel := belowCall h.bel hb h.bel.size
    k8 := fun e0 e1 => (h.k8 e0 e1).below hb (h.k8 e0 e1).lt
    k9 := fun e0 => (h.k9 e0).below hb (h.k9 e0).lt
  }
set_option maxHeartbeats 3200000 in
theorem quotLaw (a b c z : Nat) (w : World) (ha : a < 2 ^ 64) (hb : b < 2 ^ 64) (hc : c < 2 ^ 64) (hz : z < 2 ^ 64) : Calls Try.prog 13 #[.agg #[.float .f64 a, .float .f64 b], .agg #[.float .f64 c, .float .f64 z]] w fun e w' => e = .returned (.bool true) ∧ Below w.heap.size w w' := by
  have HLT : Hid (a < 2 ^ 64 ∧ b < 2 ^ 64 ∧ c < 2 ^ 64 ∧ z < 2 ^ 64) := ⟨ha, hb, hc, hz⟩
  clear ha hb hc hz
  have hsf := storeF
  obtain ⟨W1, hW1⟩ : ∃ W, (w.alloc (Obj.cells #[.float .f64 a, .float .f64 b] 54)).alloc (Obj.cells #[.float .f64 c, .float .f64 z] 54) = W := ⟨_, rfl⟩
  have HW1 : Hid ((w.alloc (Obj.cells #[.float .f64 a, .float .f64 b] 54)).alloc (Obj.cells #[.float .f64 c, .float .f64 z] 54) = W1) := hW1
  have HB1 : Hid (Below w.heap.size w W1) := by rw [← hW1]; exact ((Below.refl _ _).alloc (Nat.le_refl _) _).alloc (by simp) _
  have HK0 : Hid (Blk W1 w.heap.size #[.float .f64 a, .float .f64 b] 54) := by rw [← hW1]; exact (Blk.new _ _ _).alloc _
  have HK1 : Hid (Blk W1 (w.heap.size + 1) #[.float .f64 c, .float .f64 z] 54) := by rw [← hW1]; exact Blk.newAt _ _ _ _ (by simp)
  clear hW1
  have HCE : Hid (∀ U, Below W1.heap.size W1 U → U.cell? ⟨w.heap.size, 0, none⟩ = some (.float .f64 a) ∧ U.cell? ⟨w.heap.size, 1, none⟩ = some (.float .f64 b) ∧ U.cell? ⟨w.heap.size + 1, 0, none⟩ = some (.float .f64 c) ∧ U.cell? ⟨w.heap.size + 1, 1, none⟩ = some (.float .f64 z)) := fun U hU => ⟨by rw [(HK0.out.below hU HK0.out.lt).cell]; rfl, by rw [(HK0.out.below hU HK0.out.lt).cell]; rfl, by rw [(HK1.out.below hU HK1.out.lt).cell]; rfl, by rw [(HK1.out.below hU HK1.out.lt).cell]; rfl⟩
  go_enter Try.func13, Try.ntmps13
  go_wp2
  rw [HW1.out]
  have CE : Hid (∀ U, Below W1.drew.heap.size W1.drew U → U.cell? ⟨w.heap.size, 0, none⟩ = some (.float .f64 a) ∧ U.cell? ⟨w.heap.size, 1, none⟩ = some (.float .f64 b) ∧ U.cell? ⟨w.heap.size + 1, 0, none⟩ = some (.float .f64 c) ∧ U.cell? ⟨w.heap.size + 1, 1, none⟩ = some (.float .f64 z)) := fun U hU => HCE.out U ((Below.refl W1.heap.size W1).drew.trans (hU.mono (Below.refl W1.heap.size W1).drew.size))
  refine region_vals [undef, undef, undef, undef, undef, undef, undef, undef, undef, undef, undef] (RqlS (W1.drew) (a) (b) (c) (z)) (by kernel_rfl) (by kernel_rfl) ?_ ⟨?_, ?_, ?_, ?_, ?_, ?_, ?_, ?_, ?_, ?_, ?_, trivial⟩ ?_
  · refine ⟨_, _, _, _, _, _, _, _, _, _, _, 0, 0, 0, rfl, ⟨(Below.refl _ _), ?_, ?_, ?_, ?_, ?_, ?_, ?_, ?_, ?_, ?_, ?_, ?_, ?_, ?_, ?_, ?_, ?_, ?_, ?_⟩⟩ <;> simp
  · rintro d vs W ⟨v0, v1, v2, v3, v4, v5, v6, v7, v8, v9, v10, x, y, X, rfl, H⟩ hn hd
    simp only [putAll, Act.put, List.setIfInBounds_toArray, List.set_cons_succ, List.set_cons_zero]
    obtain ⟨q0, q1, q2, q3⟩ := CE.out W H.bel
    have HH1 : Hid (Rql (W1.drew) (a) (b) (c) (z) d W v0 v1 v2 v3 v4 v5 v6 v7 v8 v9 v10 x y X) := H
    clear H
    have HHN : Hid (d 0 = false) := hn
    clear hd hn q2 q3
    go_wp2
    have H0 := HH1.out
    have H := HH1.out
    have hn := HHN.out
    refine ⟨rfl, [.agg #[.float .f64 a, .float .f64 b], v1, v2, v3, v4, v5, v6, v7, v8, v9, v10], ?_, .agg #[.float .f64 a, .float .f64 b], v1, v2, v3, v4, v5, v6, v7, v8, v9, v10, x, y, X, rfl, ⟨H.bel, (fun _ => rfl), (by have h := H.f1; simpa [doneSet] using h), (by have h := H.f2; simpa [doneSet] using h), (by have h := H.f3; simpa [doneSet] using h), (by have h := H.f4; simpa [doneSet] using h), (by have h := H.f5; simpa [doneSet] using h), (by have h := H.f6; simpa [doneSet] using h), (by have h := H.f7; simpa [doneSet] using h), (by have h := H.f8; simpa [doneSet] using h), (by have h := H.f10; simpa [doneSet] using h), (by have h := H.hx; simpa [doneSet] using h), (by have h := H.hy; simpa [doneSet] using h), (by have h := H.k8; simpa [doneSet] using h), (by have h := H.x8; simpa [doneSet] using h), (by have h := H.k9; simpa [doneSet] using h), (by have h := H.g5_4; simpa [doneSet] using h), (by have h := H.g6_4; simpa [doneSet] using h), (by have h := H.g9_4; simpa [doneSet] using h), (by have h := H.g9_8; simpa [doneSet] using h)⟩⟩
    simp only [putAll, Act.put, List.setIfInBounds_toArray, List.set_cons_succ, List.set_cons_zero]
    all_goals rfl
  · rintro d vs W ⟨v0, v1, v2, v3, v4, v5, v6, v7, v8, v9, v10, x, y, X, rfl, H⟩ hn hd
    simp only [putAll, Act.put, List.setIfInBounds_toArray, List.set_cons_succ, List.set_cons_zero]
    have h0 : d 0 = true := hd { on := 0, ground := .data } (by simp) rfl
    obtain rfl := H.f0 h0
    have HH1 : Hid (Rql (W1.drew) (a) (b) (c) (z) d W (.agg #[.float .f64 a, .float .f64 b]) v1 v2 v3 v4 v5 v6 v7 v8 v9 v10 x y X) := H
    clear H
    have HHN : Hid (d 1 = false) := hn
    have HHD : Hid (d 0 = true) := h0
    clear hd hn h0
    go_wp2_with (fail)
    refine (toWide_c a b W).mono ?_
    rintro e W3 ⟨rfl, b7⟩
    have HB7 : Hid (Below W.heap.size W W3) := b7
    clear b7
    go_wp2
    have H0 := HH1.out
    have H := HH1.out.below HB7.out
    have hn := HHN.out
    have h0 := HHD.out
    refine ⟨rfl, [.agg #[.float .f64 a, .float .f64 b], .agg #[.float .f64 a, .float .f64 b], v2, v3, v4, v5, v6, v7, v8, v9, v10], ?_, .agg #[.float .f64 a, .float .f64 b], .agg #[.float .f64 a, .float .f64 b], v2, v3, v4, v5, v6, v7, v8, v9, v10, x, y, X, rfl, ⟨H.bel, (fun _ => rfl), (fun _ => rfl), (by have h := H.f2; simpa [doneSet] using h), (by have h := H.f3; simpa [doneSet] using h), (by have h := H.f4; simpa [doneSet] using h), (by have h := H.f5; simpa [doneSet] using h), (by have h := H.f6; simpa [doneSet] using h), (by have h := H.f7; simpa [doneSet] using h), (by have h := H.f8; simpa [doneSet] using h), (by have h := H.f10; simpa [doneSet] using h), (by have h := H.hx; simpa [doneSet] using h), (by have h := H.hy; simpa [doneSet] using h), (by have h := H.k8; simpa [doneSet] using h), (by have h := H.x8; simpa [doneSet] using h), (by have h := H.k9; simpa [doneSet] using h), (by have h := H.g5_4; simpa [doneSet] using h), (by have h := H.g6_4; simpa [doneSet] using h), (by have h := H.g9_4; simpa [doneSet] using h), (by have h := H.g9_8; simpa [doneSet] using h)⟩⟩
    simp only [putAll, Act.put, List.setIfInBounds_toArray, List.set_cons_succ, List.set_cons_zero]
    all_goals rfl
  · rintro d vs W ⟨v0, v1, v2, v3, v4, v5, v6, v7, v8, v9, v10, x, y, X, rfl, H⟩ hn hd
    simp only [putAll, Act.put, List.setIfInBounds_toArray, List.set_cons_succ, List.set_cons_zero]
    obtain ⟨q0, q1, q2, q3⟩ := CE.out W H.bel
    have HH1 : Hid (Rql (W1.drew) (a) (b) (c) (z) d W v0 v1 v2 v3 v4 v5 v6 v7 v8 v9 v10 x y X) := H
    clear H
    have HHN : Hid (d 2 = false) := hn
    clear hd hn q0 q1
    go_wp2
    have H0 := HH1.out
    have H := HH1.out
    have hn := HHN.out
    refine ⟨rfl, [v0, v1, .agg #[.float .f64 c, .float .f64 z], v3, v4, v5, v6, v7, v8, v9, v10], ?_, v0, v1, .agg #[.float .f64 c, .float .f64 z], v3, v4, v5, v6, v7, v8, v9, v10, x, y, X, rfl, ⟨H.bel, (by have h := H.f0; simpa [doneSet] using h), (by have h := H.f1; simpa [doneSet] using h), (fun _ => rfl), (by have h := H.f3; simpa [doneSet] using h), (by have h := H.f4; simpa [doneSet] using h), (by have h := H.f5; simpa [doneSet] using h), (by have h := H.f6; simpa [doneSet] using h), (by have h := H.f7; simpa [doneSet] using h), (by have h := H.f8; simpa [doneSet] using h), (by have h := H.f10; simpa [doneSet] using h), (by have h := H.hx; simpa [doneSet] using h), (by have h := H.hy; simpa [doneSet] using h), (by have h := H.k8; simpa [doneSet] using h), (by have h := H.x8; simpa [doneSet] using h), (by have h := H.k9; simpa [doneSet] using h), (by have h := H.g5_4; simpa [doneSet] using h), (by have h := H.g6_4; simpa [doneSet] using h), (by have h := H.g9_4; simpa [doneSet] using h), (by have h := H.g9_8; simpa [doneSet] using h)⟩⟩
    simp only [putAll, Act.put, List.setIfInBounds_toArray, List.set_cons_succ, List.set_cons_zero]
    all_goals rfl
  · rintro d vs W ⟨v0, v1, v2, v3, v4, v5, v6, v7, v8, v9, v10, x, y, X, rfl, H⟩ hn hd
    simp only [putAll, Act.put, List.setIfInBounds_toArray, List.set_cons_succ, List.set_cons_zero]
    have h2 : d 2 = true := hd { on := 2, ground := .data } (by simp) rfl
    obtain rfl := H.f2 h2
    have HH1 : Hid (Rql (W1.drew) (a) (b) (c) (z) d W v0 v1 (.agg #[.float .f64 c, .float .f64 z]) v3 v4 v5 v6 v7 v8 v9 v10 x y X) := H
    clear H
    have HHN : Hid (d 3 = false) := hn
    have HHD : Hid (d 2 = true) := h2
    clear hd hn h2
    go_wp2_with (fail)
    refine (toWide_c c z W).mono ?_
    rintro e W3 ⟨rfl, b7⟩
    have HB7 : Hid (Below W.heap.size W W3) := b7
    clear b7
    go_wp2
    have H0 := HH1.out
    have H := HH1.out.below HB7.out
    have hn := HHN.out
    have h2 := HHD.out
    refine ⟨rfl, [v0, v1, .agg #[.float .f64 c, .float .f64 z], .agg #[.float .f64 c, .float .f64 z], v4, v5, v6, v7, v8, v9, v10], ?_, v0, v1, .agg #[.float .f64 c, .float .f64 z], .agg #[.float .f64 c, .float .f64 z], v4, v5, v6, v7, v8, v9, v10, x, y, X, rfl, ⟨H.bel, (by have h := H.f0; simpa [doneSet] using h), (by have h := H.f1; simpa [doneSet] using h), (fun _ => rfl), (fun _ => rfl), (by have h := H.f4; simpa [doneSet] using h), (by have h := H.f5; simpa [doneSet] using h), (by have h := H.f6; simpa [doneSet] using h), (by have h := H.f7; simpa [doneSet] using h), (by have h := H.f8; simpa [doneSet] using h), (by have h := H.f10; simpa [doneSet] using h), (by have h := H.hx; simpa [doneSet] using h), (by have h := H.hy; simpa [doneSet] using h), (by have h := H.k8; simpa [doneSet] using h), (by have h := H.x8; simpa [doneSet] using h), (by have h := H.k9; simpa [doneSet] using h), (by have h := H.g5_4; simpa [doneSet] using h), (by have h := H.g6_4; simpa [doneSet] using h), (by have h := H.g9_4; simpa [doneSet] using h), (by have h := H.g9_8; simpa [doneSet] using h)⟩⟩
    simp only [putAll, Act.put, List.setIfInBounds_toArray, List.set_cons_succ, List.set_cons_zero]
    all_goals rfl
  · rintro d vs W ⟨v0, v1, v2, v3, v4, v5, v6, v7, v8, v9, v10, x, y, X, rfl, H⟩ hn hd
    simp only [putAll, Act.put, List.setIfInBounds_toArray, List.set_cons_succ, List.set_cons_zero]
    have h1 : d 1 = true := hd { on := 1, ground := .data } (by simp) rfl
    have h3 : d 3 = true := hd { on := 3, ground := .data } (by simp) rfl
    obtain rfl := H.f1 h1
    obtain rfl := H.f3 h3
    have HH1 : Hid (Rql (W1.drew) (a) (b) (c) (z) d W v0 (.agg #[.float .f64 a, .float .f64 b]) v2 (.agg #[.float .f64 c, .float .f64 z]) v4 v5 v6 v7 v8 v9 v10 x y X) := H
    clear H
    have HHN : Hid (d 4 = false) := hn
    have HHD : Hid (d 1 = true ∧ d 3 = true) := ⟨h1, h3⟩
    clear hd hn h1 h3
    go_wp2_with (fail)
    refine (quotM_c a b c z HLT.out.2.2.1 HLT.out.2.2.2 W).mono ?_
    rintro e W3 ⟨x4, y4, rfl, hx4, hy4, b7⟩
    have HB7 : Hid (Below W.heap.size W W3) := b7
    have HX4 : Hid (fc .f64 x4 = qR a b c z) := hx4
    have HY4 : Hid (fc .f64 y4 = qI a b c z) := hy4
    clear b7 hx4 hy4
    go_wp2
    have H0 := HH1.out
    have H := HH1.out.below HB7.out
    have hn := HHN.out
    have h1 := HHD.out.1
    have h3 := HHD.out.2
    refine ⟨rfl, [v0, .agg #[.float .f64 a, .float .f64 b], v2, .agg #[.float .f64 c, .float .f64 z], .tuple #[.agg #[.float .f64 x4, .float .f64 y4], .bool (qOk a b c z)], v5, v6, v7, v8, v9, v10], ?_, v0, .agg #[.float .f64 a, .float .f64 b], v2, .agg #[.float .f64 c, .float .f64 z], .tuple #[.agg #[.float .f64 x4, .float .f64 y4], .bool (qOk a b c z)], v5, v6, v7, v8, v9, v10, x4, y4, X, rfl, ⟨H.bel, (by have h := H.f0; simpa [doneSet] using h), (fun _ => rfl), (by have h := H.f2; simpa [doneSet] using h), (fun _ => rfl), (fun _ => rfl), (fun e => absurd (H0.g5_4 (by simpa [doneSet] using e)) (by rw [hn]; simp)), (fun e => absurd (H0.g6_4 (by simpa [doneSet] using e)) (by rw [hn]; simp)), (by have h := H.f7; simpa [doneSet] using h), (by have h := H.f8; simpa [doneSet] using h), (by have h := H.f10; simpa [doneSet] using h), (fun _ => HX4.out), (fun _ => HY4.out), (by have h := H.k8; simpa [doneSet] using h), (by have h := H.x8; simpa [doneSet] using h), (fun e => absurd (H0.g9_4 (by simpa [doneSet] using e)) (by rw [hn]; simp)), (fun _ => by simp [doneSet]), (fun _ => by simp [doneSet]), (fun _ => by simp [doneSet]), (by have h := H.g9_8; simpa [doneSet] using h)⟩⟩
    simp only [putAll, Act.put, List.setIfInBounds_toArray, List.set_cons_succ, List.set_cons_zero]
    all_goals rfl
  · rintro d vs W ⟨v0, v1, v2, v3, v4, v5, v6, v7, v8, v9, v10, x, y, X, rfl, H⟩ hn hd
    simp only [putAll, Act.put, List.setIfInBounds_toArray, List.set_cons_succ, List.set_cons_zero]
    have h4 : d 4 = true := hd { on := 4, ground := .data } (by simp) rfl
    obtain rfl := H.f4 h4
    have HH1 : Hid (Rql (W1.drew) (a) (b) (c) (z) d W v0 v1 v2 v3 (.tuple #[.agg #[.float .f64 x, .float .f64 y], .bool (qOk a b c z)]) v5 v6 v7 v8 v9 v10 x y X) := H
    clear H
    have HHN : Hid (d 5 = false) := hn
    have HHD : Hid (d 4 = true) := h4
    clear hd hn h4
    go_wp2
    have H0 := HH1.out
    have H := HH1.out
    have hn := HHN.out
    have h4 := HHD.out
    refine ⟨rfl, [v0, v1, v2, v3, .tuple #[.agg #[.float .f64 x, .float .f64 y], .bool (qOk a b c z)], .tuple #[.agg #[.float .f64 x, .float .f64 y], .bool (qOk a b c z)], v6, v7, v8, v9, v10], ?_, v0, v1, v2, v3, .tuple #[.agg #[.float .f64 x, .float .f64 y], .bool (qOk a b c z)], .tuple #[.agg #[.float .f64 x, .float .f64 y], .bool (qOk a b c z)], v6, v7, v8, v9, v10, x, y, X, rfl, ⟨H.bel, (by have h := H.f0; simpa [doneSet] using h), (by have h := H.f1; simpa [doneSet] using h), (by have h := H.f2; simpa [doneSet] using h), (by have h := H.f3; simpa [doneSet] using h), (fun _ => rfl), (fun _ => rfl), (by have h := H.f6; simpa [doneSet] using h), (by have h := H.f7; simpa [doneSet] using h), (by have h := H.f8; simpa [doneSet] using h), (by have h := H.f10; simpa [doneSet] using h), (by have h := H.hx; simpa [doneSet] using h), (by have h := H.hy; simpa [doneSet] using h), (by have h := H.k8; simpa [doneSet] using h), (by have h := H.x8; simpa [doneSet] using h), (by have h := H.k9; simpa [doneSet] using h), (fun _ => by simpa [doneSet] using h4), (by have h := H.g6_4; simpa [doneSet] using h), (by have h := H.g9_4; simpa [doneSet] using h), (by have h := H.g9_8; simpa [doneSet] using h)⟩⟩
    simp only [putAll, Act.put, List.setIfInBounds_toArray, List.set_cons_succ, List.set_cons_zero]
    all_goals rfl
  · rintro d vs W ⟨v0, v1, v2, v3, v4, v5, v6, v7, v8, v9, v10, x, y, X, rfl, H⟩ hn hd
    simp only [putAll, Act.put, List.setIfInBounds_toArray, List.set_cons_succ, List.set_cons_zero]
    have h5 : d 5 = true := hd { on := 5, ground := .data } (by simp) rfl
    have h4 := H.g5_4 h5
    obtain rfl := H.f5 h5
    have HH1 : Hid (Rql (W1.drew) (a) (b) (c) (z) d W v0 v1 v2 v3 v4 (.tuple #[.agg #[.float .f64 x, .float .f64 y], .bool (qOk a b c z)]) v6 v7 v8 v9 v10 x y X) := H
    clear H
    have HHN : Hid (d 6 = false) := hn
    have HHD : Hid (d 5 = true) := h5
    clear hd hn h5
    go_wp2
    have H0 := HH1.out
    have H := HH1.out
    have hn := HHN.out
    have h5 := HHD.out
    refine ⟨rfl, [v0, v1, v2, v3, v4, .tuple #[.agg #[.float .f64 x, .float .f64 y], .bool (qOk a b c z)], .agg #[.float .f64 x, .float .f64 y], v7, v8, v9, v10], ?_, v0, v1, v2, v3, v4, .tuple #[.agg #[.float .f64 x, .float .f64 y], .bool (qOk a b c z)], .agg #[.float .f64 x, .float .f64 y], v7, v8, v9, v10, x, y, X, rfl, ⟨H.bel, (by have h := H.f0; simpa [doneSet] using h), (by have h := H.f1; simpa [doneSet] using h), (by have h := H.f2; simpa [doneSet] using h), (by have h := H.f3; simpa [doneSet] using h), (by have h := H.f4; simpa [doneSet] using h), (fun _ => rfl), (fun _ => rfl), (by have h := H.f7; simpa [doneSet] using h), (by have h := H.f8; simpa [doneSet] using h), (by have h := H.f10; simpa [doneSet] using h), (by have h := H.hx; simpa [doneSet] using h), (by have h := H.hy; simpa [doneSet] using h), (by have h := H.k8; simpa [doneSet] using h), (by have h := H.x8; simpa [doneSet] using h), (by have h := H.k9; simpa [doneSet] using h), (by have h := H.g5_4; simpa [doneSet] using h), (fun _ => by simpa [doneSet] using h4), (by have h := H.g9_4; simpa [doneSet] using h), (by have h := H.g9_8; simpa [doneSet] using h)⟩⟩
    simp only [putAll, Act.put, List.setIfInBounds_toArray, List.set_cons_succ, List.set_cons_zero]
    all_goals rfl
  · rintro d vs W ⟨v0, v1, v2, v3, v4, v5, v6, v7, v8, v9, v10, x, y, X, rfl, H⟩ hn hd
    simp only [putAll, Act.put, List.setIfInBounds_toArray, List.set_cons_succ, List.set_cons_zero]
    have h5 : d 5 = true := hd { on := 5, ground := .data } (by simp) rfl
    obtain rfl := H.f5 h5
    have HH1 : Hid (Rql (W1.drew) (a) (b) (c) (z) d W v0 v1 v2 v3 v4 (.tuple #[.agg #[.float .f64 x, .float .f64 y], .bool (qOk a b c z)]) v6 v7 v8 v9 v10 x y X) := H
    clear H
    have HHN : Hid (d 7 = false) := hn
    have HHD : Hid (d 5 = true) := h5
    clear hd hn h5
    go_wp2
    have H0 := HH1.out
    have H := HH1.out
    have hn := HHN.out
    have h5 := HHD.out
    refine ⟨rfl, [v0, v1, v2, v3, v4, .tuple #[.agg #[.float .f64 x, .float .f64 y], .bool (qOk a b c z)], v6, .bool (qOk a b c z), v8, v9, v10], ?_, v0, v1, v2, v3, v4, .tuple #[.agg #[.float .f64 x, .float .f64 y], .bool (qOk a b c z)], v6, .bool (qOk a b c z), v8, v9, v10, x, y, X, rfl, ⟨H.bel, (by have h := H.f0; simpa [doneSet] using h), (by have h := H.f1; simpa [doneSet] using h), (by have h := H.f2; simpa [doneSet] using h), (by have h := H.f3; simpa [doneSet] using h), (by have h := H.f4; simpa [doneSet] using h), (fun _ => rfl), (by have h := H.f6; simpa [doneSet] using h), (fun _ => rfl), (by have h := H.f8; simpa [doneSet] using h), (by have h := H.f10; simpa [doneSet] using h), (by have h := H.hx; simpa [doneSet] using h), (by have h := H.hy; simpa [doneSet] using h), (by have h := H.k8; simpa [doneSet] using h), (by have h := H.x8; simpa [doneSet] using h), (by have h := H.k9; simpa [doneSet] using h), (by have h := H.g5_4; simpa [doneSet] using h), (by have h := H.g6_4; simpa [doneSet] using h), (by have h := H.g9_4; simpa [doneSet] using h), (by have h := H.g9_8; simpa [doneSet] using h)⟩⟩
    simp only [putAll, Act.put, List.setIfInBounds_toArray, List.set_cons_succ, List.set_cons_zero]
    all_goals rfl
  · rintro d vs W ⟨v0, v1, v2, v3, v4, v5, v6, v7, v8, v9, v10, x, y, X, rfl, H⟩ hn hd
    simp only [putAll, Act.put, List.setIfInBounds_toArray, List.set_cons_succ, List.set_cons_zero]
    have HH1 : Hid (Rql (W1.drew) (a) (b) (c) (z) d W v0 v1 v2 v3 v4 v5 v6 v7 v8 v9 v10 x y X) := H
    clear H
    have HHN : Hid (d 8 = false) := hn
    clear hd hn
    go_wp2
    have H0 := HH1.out
    have H := HH1.out.below ((Below.refl _ W).alloc (Nat.le_refl _) (.cells #[.float .f64 0, .float .f64 0] 30))
    have hn := HHN.out
    refine ⟨rfl, [v0, v1, v2, v3, v4, v5, v6, v7, .pointer (some ⟨W.heap.size, 0, none⟩), v9, v10], ?_, v0, v1, v2, v3, v4, v5, v6, v7, .pointer (some ⟨W.heap.size, 0, none⟩), v9, v10, x, y, W.heap.size, rfl, ⟨H.bel, (by have h := H.f0; simpa [doneSet] using h), (by have h := H.f1; simpa [doneSet] using h), (by have h := H.f2; simpa [doneSet] using h), (by have h := H.f3; simpa [doneSet] using h), (by have h := H.f4; simpa [doneSet] using h), (by have h := H.f5; simpa [doneSet] using h), (by have h := H.f6; simpa [doneSet] using h), (by have h := H.f7; simpa [doneSet] using h), (fun _ => rfl), (by have h := H.f10; simpa [doneSet] using h), (by have h := H.hx; simpa [doneSet] using h), (by have h := H.hy; simpa [doneSet] using h), (fun _ _ => Blk.new _ _ _), (fun _ => H0.bel.size), (fun e => absurd (H0.g9_8 (by simpa [doneSet] using e)) (by rw [hn]; simp)), (by have h := H.g5_4; simpa [doneSet] using h), (by have h := H.g6_4; simpa [doneSet] using h), (by have h := H.g9_4; simpa [doneSet] using h), (fun _ => by simp [doneSet])⟩⟩
    simp only [putAll, Act.put, List.setIfInBounds_toArray, List.set_cons_succ, List.set_cons_zero]
    all_goals rfl
  · rintro d vs W ⟨v0, v1, v2, v3, v4, v5, v6, v7, v8, v9, v10, x, y, X, rfl, H⟩ hn hd
    simp only [putAll, Act.put, List.setIfInBounds_toArray, List.set_cons_succ, List.set_cons_zero]
    have h8 : d 8 = true := hd { on := 8, ground := .data } (by simp) rfl
    have h6 : d 6 = true := hd { on := 6, ground := .data } (by simp) rfl
    have h4 := H.g6_4 h6
    have K5 := H.k8 h8 hn
    have HK5 : Hid (Blk W X #[.float .f64 0, .float .f64 0] 30) := K5
    have HX5 : Hid (W1.drew.heap.size ≤ X) := H.x8 h8
    have z0 := K5.cell 0
    have z1 := K5.cell 1
    have f0 := K5.frozen 0
    have f1 := K5.frozen 1
    simp at z0 z1
    clear K5
    obtain rfl := H.f8 h8
    obtain rfl := H.f6 h6
    have HH1 : Hid (Rql (W1.drew) (a) (b) (c) (z) d W v0 v1 v2 v3 v4 v5 (.agg #[.float .f64 x, .float .f64 y]) v7 (.pointer (some ⟨X, 0, none⟩)) v9 v10 x y X) := H
    clear H
    have HHN : Hid (d 9 = false) := hn
    have HHD : Hid (d 8 = true ∧ d 6 = true) := ⟨h8, h6⟩
    clear hd hn h8 h6
    go_wp2
    have H0 := HH1.out
    have H := HH1.out
    have hn := HHN.out
    have h8 := HHD.out.1
    have h6 := HHD.out.2
    refine ⟨rfl, [v0, v1, v2, v3, v4, v5, .agg #[.float .f64 x, .float .f64 y], v7, .pointer (some ⟨X, 0, none⟩), undef, v10], ?_, v0, v1, v2, v3, v4, v5, .agg #[.float .f64 x, .float .f64 y], v7, .pointer (some ⟨X, 0, none⟩), undef, v10, x, y, X, rfl, ⟨(below_set2 H0.bel _ HX5.out _ _), (by have h := H.f0; simpa [doneSet] using h), (by have h := H.f1; simpa [doneSet] using h), (by have h := H.f2; simpa [doneSet] using h), (by have h := H.f3; simpa [doneSet] using h), (by have h := H.f4; simpa [doneSet] using h), (by have h := H.f5; simpa [doneSet] using h), (fun _ => rfl), (by have h := H.f7; simpa [doneSet] using h), (fun _ => rfl), (by have h := H.f10; simpa [doneSet] using h), (by have h := H.hx; simpa [doneSet] using h), (by have h := H.hy; simpa [doneSet] using h), (fun _ e => absurd e (by simp [doneSet])), (by have h := H.x8; simpa [doneSet] using h), (fun _ => Blk.set2 HK5.out _ _), (by have h := H.g5_4; simpa [doneSet] using h), (by have h := H.g6_4; simpa [doneSet] using h), (fun _ => by simpa [doneSet] using h4), (fun _ => by simpa [doneSet] using h8)⟩⟩
    simp only [putAll, Act.put, List.setIfInBounds_toArray, List.set_cons_succ, List.set_cons_zero]
    all_goals rfl
  · rintro d vs W ⟨v0, v1, v2, v3, v4, v5, v6, v7, v8, v9, v10, x, y, X, rfl, H⟩ hn hd
    simp only [putAll, Act.put, List.setIfInBounds_toArray, List.set_cons_succ, List.set_cons_zero]
    have h7 : d 7 = true := hd { on := 7, ground := .data } (by simp) rfl
    obtain rfl := H.f7 h7
    have HH1 : Hid (Rql (W1.drew) (a) (b) (c) (z) d W v0 v1 v2 v3 v4 v5 v6 (.bool (qOk a b c z)) v8 v9 v10 x y X) := H
    clear H
    have HHN : Hid (d 10 = false) := hn
    have HHD : Hid (d 7 = true) := h7
    clear hd hn h7
    go_wp2
    have H0 := HH1.out
    have H := HH1.out
    have hn := HHN.out
    have h7 := HHD.out
    refine ⟨rfl, [v0, v1, v2, v3, v4, v5, v6, .bool (qOk a b c z), v8, v9, .bool (qOk a b c z)], ?_, v0, v1, v2, v3, v4, v5, v6, .bool (qOk a b c z), v8, v9, .bool (qOk a b c z), x, y, X, rfl, ⟨H.bel, (by have h := H.f0; simpa [doneSet] using h), (by have h := H.f1; simpa [doneSet] using h), (by have h := H.f2; simpa [doneSet] using h), (by have h := H.f3; simpa [doneSet] using h), (by have h := H.f4; simpa [doneSet] using h), (by have h := H.f5; simpa [doneSet] using h), (by have h := H.f6; simpa [doneSet] using h), (fun _ => rfl), (by have h := H.f8; simpa [doneSet] using h), (fun _ => rfl), (by have h := H.hx; simpa [doneSet] using h), (by have h := H.hy; simpa [doneSet] using h), (by have h := H.k8; simpa [doneSet] using h), (by have h := H.x8; simpa [doneSet] using h), (by have h := H.k9; simpa [doneSet] using h), (by have h := H.g5_4; simpa [doneSet] using h), (by have h := H.g6_4; simpa [doneSet] using h), (by have h := H.g9_4; simpa [doneSet] using h), (by have h := H.g9_8; simpa [doneSet] using h)⟩⟩
    simp only [putAll, Act.put, List.setIfInBounds_toArray, List.set_cons_succ, List.set_cons_zero]
    all_goals rfl
  rintro d' vs W ⟨v0, v1, v2, v3, v4, v5, v6, v7, v8, v9, v10, x, y, X, rfl, H⟩ hn
  obtain rfl := H.f0 (hn 0 (by decide))
  obtain rfl := H.f1 (hn 1 (by decide))
  obtain rfl := H.f2 (hn 2 (by decide))
  obtain rfl := H.f3 (hn 3 (by decide))
  obtain rfl := H.f4 (hn 4 (by decide))
  obtain rfl := H.f5 (hn 5 (by decide))
  obtain rfl := H.f6 (hn 6 (by decide))
  obtain rfl := H.f7 (hn 7 (by decide))
  obtain rfl := H.f8 (hn 8 (by decide))
  obtain rfl := H.f10 (hn 10 (by decide))
  have HG0 : Hid (Blk W X #[.float .f64 x, .float .f64 y] 30) := H.k9 (hn 9 (by decide))
  have HX0 : Hid (fc .f64 x = qR a b c z) := H.hx (hn 4 (by decide))
  have HY0 : Hid (fc .f64 y = qI a b c z) := H.hy (hn 4 (by decide))
  have HU0 : Hid (Below W1.heap.size W1 W) := (Below.refl _ _).drew.trans H.bel
  have HB3 : Hid (Below W1.heap.size W1 W) := (Below.refl W1.heap.size W1).trans (HU0.out.mono (Below.refl W1.heap.size W1).size)
  clear H hn CE
  obtain ⟨U0, hv0⟩ : ∃ U, U = W := ⟨_, rfl⟩
  obtain ⟨x0, hx0⟩ : ∃ u, u = x := ⟨_, rfl⟩
  obtain ⟨y0, hy0⟩ : ∃ u, u = y := ⟨_, rfl⟩
  obtain ⟨X0, hX0⟩ : ∃ u, u = X := ⟨_, rfl⟩
  subst hv0 hx0 hy0 hX0
  simp only [putAll, Act.put, List.setIfInBounds_toArray, List.set_cons_succ, List.set_cons_zero]
  go_wp2
  skip
  have CE : Hid (∀ U, Below U0.drew.heap.size U0.drew U → U.cell? ⟨w.heap.size, 0, none⟩ = some (.float .f64 a) ∧ U.cell? ⟨w.heap.size, 1, none⟩ = some (.float .f64 b) ∧ U.cell? ⟨w.heap.size + 1, 0, none⟩ = some (.float .f64 c) ∧ U.cell? ⟨w.heap.size + 1, 1, none⟩ = some (.float .f64 z)) := fun U hU => HCE.out U ((HB3.out).drew.trans (hU.mono (HB3.out).drew.size))
  refine region_vals [undef, undef, undef, undef, undef, undef, undef, undef, undef, undef, undef] (RqlS (U0.drew) (a) (b) (c) (z)) (by kernel_rfl) (by kernel_rfl) ?_ ⟨?_, ?_, ?_, ?_, ?_, ?_, ?_, ?_, ?_, ?_, ?_, trivial⟩ ?_
  · refine ⟨_, _, _, _, _, _, _, _, _, _, _, 0, 0, 0, rfl, ⟨(Below.refl _ _), ?_, ?_, ?_, ?_, ?_, ?_, ?_, ?_, ?_, ?_, ?_, ?_, ?_, ?_, ?_, ?_, ?_, ?_, ?_⟩⟩ <;> simp
  · rintro d vs W ⟨v0, v1, v2, v3, v4, v5, v6, v7, v8, v9, v10, x, y, X, rfl, H⟩ hn hd
    simp only [putAll, Act.put, List.setIfInBounds_toArray, List.set_cons_succ, List.set_cons_zero]
    obtain ⟨q0, q1, q2, q3⟩ := CE.out W H.bel
    have HH1 : Hid (Rql (U0.drew) (a) (b) (c) (z) d W v0 v1 v2 v3 v4 v5 v6 v7 v8 v9 v10 x y X) := H
    clear H
    have HHN : Hid (d 0 = false) := hn
    clear hd hn q2 q3
    go_wp2
    have H0 := HH1.out
    have H := HH1.out
    have hn := HHN.out
    refine ⟨rfl, [.agg #[.float .f64 a, .float .f64 b], v1, v2, v3, v4, v5, v6, v7, v8, v9, v10], ?_, .agg #[.float .f64 a, .float .f64 b], v1, v2, v3, v4, v5, v6, v7, v8, v9, v10, x, y, X, rfl, ⟨H.bel, (fun _ => rfl), (by have h := H.f1; simpa [doneSet] using h), (by have h := H.f2; simpa [doneSet] using h), (by have h := H.f3; simpa [doneSet] using h), (by have h := H.f4; simpa [doneSet] using h), (by have h := H.f5; simpa [doneSet] using h), (by have h := H.f6; simpa [doneSet] using h), (by have h := H.f7; simpa [doneSet] using h), (by have h := H.f8; simpa [doneSet] using h), (by have h := H.f10; simpa [doneSet] using h), (by have h := H.hx; simpa [doneSet] using h), (by have h := H.hy; simpa [doneSet] using h), (by have h := H.k8; simpa [doneSet] using h), (by have h := H.x8; simpa [doneSet] using h), (by have h := H.k9; simpa [doneSet] using h), (by have h := H.g5_4; simpa [doneSet] using h), (by have h := H.g6_4; simpa [doneSet] using h), (by have h := H.g9_4; simpa [doneSet] using h), (by have h := H.g9_8; simpa [doneSet] using h)⟩⟩
    simp only [putAll, Act.put, List.setIfInBounds_toArray, List.set_cons_succ, List.set_cons_zero]
    all_goals rfl
  · rintro d vs W ⟨v0, v1, v2, v3, v4, v5, v6, v7, v8, v9, v10, x, y, X, rfl, H⟩ hn hd
    simp only [putAll, Act.put, List.setIfInBounds_toArray, List.set_cons_succ, List.set_cons_zero]
    have h0 : d 0 = true := hd { on := 0, ground := .data } (by simp) rfl
    obtain rfl := H.f0 h0
    have HH1 : Hid (Rql (U0.drew) (a) (b) (c) (z) d W (.agg #[.float .f64 a, .float .f64 b]) v1 v2 v3 v4 v5 v6 v7 v8 v9 v10 x y X) := H
    clear H
    have HHN : Hid (d 1 = false) := hn
    have HHD : Hid (d 0 = true) := h0
    clear hd hn h0
    go_wp2_with (fail)
    refine (toWide_c a b W).mono ?_
    rintro e W3 ⟨rfl, b7⟩
    have HB7 : Hid (Below W.heap.size W W3) := b7
    clear b7
    go_wp2
    have H0 := HH1.out
    have H := HH1.out.below HB7.out
    have hn := HHN.out
    have h0 := HHD.out
    refine ⟨rfl, [.agg #[.float .f64 a, .float .f64 b], .agg #[.float .f64 a, .float .f64 b], v2, v3, v4, v5, v6, v7, v8, v9, v10], ?_, .agg #[.float .f64 a, .float .f64 b], .agg #[.float .f64 a, .float .f64 b], v2, v3, v4, v5, v6, v7, v8, v9, v10, x, y, X, rfl, ⟨H.bel, (fun _ => rfl), (fun _ => rfl), (by have h := H.f2; simpa [doneSet] using h), (by have h := H.f3; simpa [doneSet] using h), (by have h := H.f4; simpa [doneSet] using h), (by have h := H.f5; simpa [doneSet] using h), (by have h := H.f6; simpa [doneSet] using h), (by have h := H.f7; simpa [doneSet] using h), (by have h := H.f8; simpa [doneSet] using h), (by have h := H.f10; simpa [doneSet] using h), (by have h := H.hx; simpa [doneSet] using h), (by have h := H.hy; simpa [doneSet] using h), (by have h := H.k8; simpa [doneSet] using h), (by have h := H.x8; simpa [doneSet] using h), (by have h := H.k9; simpa [doneSet] using h), (by have h := H.g5_4; simpa [doneSet] using h), (by have h := H.g6_4; simpa [doneSet] using h), (by have h := H.g9_4; simpa [doneSet] using h), (by have h := H.g9_8; simpa [doneSet] using h)⟩⟩
    simp only [putAll, Act.put, List.setIfInBounds_toArray, List.set_cons_succ, List.set_cons_zero]
    all_goals rfl
  · rintro d vs W ⟨v0, v1, v2, v3, v4, v5, v6, v7, v8, v9, v10, x, y, X, rfl, H⟩ hn hd
    simp only [putAll, Act.put, List.setIfInBounds_toArray, List.set_cons_succ, List.set_cons_zero]
    obtain ⟨q0, q1, q2, q3⟩ := CE.out W H.bel
    have HH1 : Hid (Rql (U0.drew) (a) (b) (c) (z) d W v0 v1 v2 v3 v4 v5 v6 v7 v8 v9 v10 x y X) := H
    clear H
    have HHN : Hid (d 2 = false) := hn
    clear hd hn q0 q1
    go_wp2
    have H0 := HH1.out
    have H := HH1.out
    have hn := HHN.out
    refine ⟨rfl, [v0, v1, .agg #[.float .f64 c, .float .f64 z], v3, v4, v5, v6, v7, v8, v9, v10], ?_, v0, v1, .agg #[.float .f64 c, .float .f64 z], v3, v4, v5, v6, v7, v8, v9, v10, x, y, X, rfl, ⟨H.bel, (by have h := H.f0; simpa [doneSet] using h), (by have h := H.f1; simpa [doneSet] using h), (fun _ => rfl), (by have h := H.f3; simpa [doneSet] using h), (by have h := H.f4; simpa [doneSet] using h), (by have h := H.f5; simpa [doneSet] using h), (by have h := H.f6; simpa [doneSet] using h), (by have h := H.f7; simpa [doneSet] using h), (by have h := H.f8; simpa [doneSet] using h), (by have h := H.f10; simpa [doneSet] using h), (by have h := H.hx; simpa [doneSet] using h), (by have h := H.hy; simpa [doneSet] using h), (by have h := H.k8; simpa [doneSet] using h), (by have h := H.x8; simpa [doneSet] using h), (by have h := H.k9; simpa [doneSet] using h), (by have h := H.g5_4; simpa [doneSet] using h), (by have h := H.g6_4; simpa [doneSet] using h), (by have h := H.g9_4; simpa [doneSet] using h), (by have h := H.g9_8; simpa [doneSet] using h)⟩⟩
    simp only [putAll, Act.put, List.setIfInBounds_toArray, List.set_cons_succ, List.set_cons_zero]
    all_goals rfl
  · rintro d vs W ⟨v0, v1, v2, v3, v4, v5, v6, v7, v8, v9, v10, x, y, X, rfl, H⟩ hn hd
    simp only [putAll, Act.put, List.setIfInBounds_toArray, List.set_cons_succ, List.set_cons_zero]
    have h2 : d 2 = true := hd { on := 2, ground := .data } (by simp) rfl
    obtain rfl := H.f2 h2
    have HH1 : Hid (Rql (U0.drew) (a) (b) (c) (z) d W v0 v1 (.agg #[.float .f64 c, .float .f64 z]) v3 v4 v5 v6 v7 v8 v9 v10 x y X) := H
    clear H
    have HHN : Hid (d 3 = false) := hn
    have HHD : Hid (d 2 = true) := h2
    clear hd hn h2
    go_wp2_with (fail)
    refine (toWide_c c z W).mono ?_
    rintro e W3 ⟨rfl, b7⟩
    have HB7 : Hid (Below W.heap.size W W3) := b7
    clear b7
    go_wp2
    have H0 := HH1.out
    have H := HH1.out.below HB7.out
    have hn := HHN.out
    have h2 := HHD.out
    refine ⟨rfl, [v0, v1, .agg #[.float .f64 c, .float .f64 z], .agg #[.float .f64 c, .float .f64 z], v4, v5, v6, v7, v8, v9, v10], ?_, v0, v1, .agg #[.float .f64 c, .float .f64 z], .agg #[.float .f64 c, .float .f64 z], v4, v5, v6, v7, v8, v9, v10, x, y, X, rfl, ⟨H.bel, (by have h := H.f0; simpa [doneSet] using h), (by have h := H.f1; simpa [doneSet] using h), (fun _ => rfl), (fun _ => rfl), (by have h := H.f4; simpa [doneSet] using h), (by have h := H.f5; simpa [doneSet] using h), (by have h := H.f6; simpa [doneSet] using h), (by have h := H.f7; simpa [doneSet] using h), (by have h := H.f8; simpa [doneSet] using h), (by have h := H.f10; simpa [doneSet] using h), (by have h := H.hx; simpa [doneSet] using h), (by have h := H.hy; simpa [doneSet] using h), (by have h := H.k8; simpa [doneSet] using h), (by have h := H.x8; simpa [doneSet] using h), (by have h := H.k9; simpa [doneSet] using h), (by have h := H.g5_4; simpa [doneSet] using h), (by have h := H.g6_4; simpa [doneSet] using h), (by have h := H.g9_4; simpa [doneSet] using h), (by have h := H.g9_8; simpa [doneSet] using h)⟩⟩
    simp only [putAll, Act.put, List.setIfInBounds_toArray, List.set_cons_succ, List.set_cons_zero]
    all_goals rfl
  · rintro d vs W ⟨v0, v1, v2, v3, v4, v5, v6, v7, v8, v9, v10, x, y, X, rfl, H⟩ hn hd
    simp only [putAll, Act.put, List.setIfInBounds_toArray, List.set_cons_succ, List.set_cons_zero]
    have h1 : d 1 = true := hd { on := 1, ground := .data } (by simp) rfl
    have h3 : d 3 = true := hd { on := 3, ground := .data } (by simp) rfl
    obtain rfl := H.f1 h1
    obtain rfl := H.f3 h3
    have HH1 : Hid (Rql (U0.drew) (a) (b) (c) (z) d W v0 (.agg #[.float .f64 a, .float .f64 b]) v2 (.agg #[.float .f64 c, .float .f64 z]) v4 v5 v6 v7 v8 v9 v10 x y X) := H
    clear H
    have HHN : Hid (d 4 = false) := hn
    have HHD : Hid (d 1 = true ∧ d 3 = true) := ⟨h1, h3⟩
    clear hd hn h1 h3
    go_wp2_with (fail)
    refine (quotI_c a b c z HLT.out.1 HLT.out.2.1 HLT.out.2.2.1 HLT.out.2.2.2 W).mono ?_
    rintro e W3 ⟨x4, y4, rfl, hx4, hy4, b7⟩
    have HB7 : Hid (Below W.heap.size W W3) := b7
    have HX4 : Hid (fc .f64 x4 = qR a b c z) := hx4
    have HY4 : Hid (fc .f64 y4 = qI a b c z) := hy4
    clear b7 hx4 hy4
    go_wp2
    have H0 := HH1.out
    have H := HH1.out.below HB7.out
    have hn := HHN.out
    have h1 := HHD.out.1
    have h3 := HHD.out.2
    refine ⟨rfl, [v0, .agg #[.float .f64 a, .float .f64 b], v2, .agg #[.float .f64 c, .float .f64 z], .tuple #[.agg #[.float .f64 x4, .float .f64 y4], .bool (qOk a b c z)], v5, v6, v7, v8, v9, v10], ?_, v0, .agg #[.float .f64 a, .float .f64 b], v2, .agg #[.float .f64 c, .float .f64 z], .tuple #[.agg #[.float .f64 x4, .float .f64 y4], .bool (qOk a b c z)], v5, v6, v7, v8, v9, v10, x4, y4, X, rfl, ⟨H.bel, (by have h := H.f0; simpa [doneSet] using h), (fun _ => rfl), (by have h := H.f2; simpa [doneSet] using h), (fun _ => rfl), (fun _ => rfl), (fun e => absurd (H0.g5_4 (by simpa [doneSet] using e)) (by rw [hn]; simp)), (fun e => absurd (H0.g6_4 (by simpa [doneSet] using e)) (by rw [hn]; simp)), (by have h := H.f7; simpa [doneSet] using h), (by have h := H.f8; simpa [doneSet] using h), (by have h := H.f10; simpa [doneSet] using h), (fun _ => HX4.out), (fun _ => HY4.out), (by have h := H.k8; simpa [doneSet] using h), (by have h := H.x8; simpa [doneSet] using h), (fun e => absurd (H0.g9_4 (by simpa [doneSet] using e)) (by rw [hn]; simp)), (fun _ => by simp [doneSet]), (fun _ => by simp [doneSet]), (fun _ => by simp [doneSet]), (by have h := H.g9_8; simpa [doneSet] using h)⟩⟩
    simp only [putAll, Act.put, List.setIfInBounds_toArray, List.set_cons_succ, List.set_cons_zero]
    all_goals rfl
  · rintro d vs W ⟨v0, v1, v2, v3, v4, v5, v6, v7, v8, v9, v10, x, y, X, rfl, H⟩ hn hd
    simp only [putAll, Act.put, List.setIfInBounds_toArray, List.set_cons_succ, List.set_cons_zero]
    have h4 : d 4 = true := hd { on := 4, ground := .data } (by simp) rfl
    obtain rfl := H.f4 h4
    have HH1 : Hid (Rql (U0.drew) (a) (b) (c) (z) d W v0 v1 v2 v3 (.tuple #[.agg #[.float .f64 x, .float .f64 y], .bool (qOk a b c z)]) v5 v6 v7 v8 v9 v10 x y X) := H
    clear H
    have HHN : Hid (d 5 = false) := hn
    have HHD : Hid (d 4 = true) := h4
    clear hd hn h4
    go_wp2
    have H0 := HH1.out
    have H := HH1.out
    have hn := HHN.out
    have h4 := HHD.out
    refine ⟨rfl, [v0, v1, v2, v3, .tuple #[.agg #[.float .f64 x, .float .f64 y], .bool (qOk a b c z)], .tuple #[.agg #[.float .f64 x, .float .f64 y], .bool (qOk a b c z)], v6, v7, v8, v9, v10], ?_, v0, v1, v2, v3, .tuple #[.agg #[.float .f64 x, .float .f64 y], .bool (qOk a b c z)], .tuple #[.agg #[.float .f64 x, .float .f64 y], .bool (qOk a b c z)], v6, v7, v8, v9, v10, x, y, X, rfl, ⟨H.bel, (by have h := H.f0; simpa [doneSet] using h), (by have h := H.f1; simpa [doneSet] using h), (by have h := H.f2; simpa [doneSet] using h), (by have h := H.f3; simpa [doneSet] using h), (fun _ => rfl), (fun _ => rfl), (by have h := H.f6; simpa [doneSet] using h), (by have h := H.f7; simpa [doneSet] using h), (by have h := H.f8; simpa [doneSet] using h), (by have h := H.f10; simpa [doneSet] using h), (by have h := H.hx; simpa [doneSet] using h), (by have h := H.hy; simpa [doneSet] using h), (by have h := H.k8; simpa [doneSet] using h), (by have h := H.x8; simpa [doneSet] using h), (by have h := H.k9; simpa [doneSet] using h), (fun _ => by simpa [doneSet] using h4), (by have h := H.g6_4; simpa [doneSet] using h), (by have h := H.g9_4; simpa [doneSet] using h), (by have h := H.g9_8; simpa [doneSet] using h)⟩⟩
    simp only [putAll, Act.put, List.setIfInBounds_toArray, List.set_cons_succ, List.set_cons_zero]
    all_goals rfl
  · rintro d vs W ⟨v0, v1, v2, v3, v4, v5, v6, v7, v8, v9, v10, x, y, X, rfl, H⟩ hn hd
    simp only [putAll, Act.put, List.setIfInBounds_toArray, List.set_cons_succ, List.set_cons_zero]
    have h5 : d 5 = true := hd { on := 5, ground := .data } (by simp) rfl
    have h4 := H.g5_4 h5
    obtain rfl := H.f5 h5
    have HH1 : Hid (Rql (U0.drew) (a) (b) (c) (z) d W v0 v1 v2 v3 v4 (.tuple #[.agg #[.float .f64 x, .float .f64 y], .bool (qOk a b c z)]) v6 v7 v8 v9 v10 x y X) := H
    clear H
    have HHN : Hid (d 6 = false) := hn
    have HHD : Hid (d 5 = true) := h5
    clear hd hn h5
    go_wp2
    have H0 := HH1.out
    have H := HH1.out
    have hn := HHN.out
    have h5 := HHD.out
    refine ⟨rfl, [v0, v1, v2, v3, v4, .tuple #[.agg #[.float .f64 x, .float .f64 y], .bool (qOk a b c z)], .agg #[.float .f64 x, .float .f64 y], v7, v8, v9, v10], ?_, v0, v1, v2, v3, v4, .tuple #[.agg #[.float .f64 x, .float .f64 y], .bool (qOk a b c z)], .agg #[.float .f64 x, .float .f64 y], v7, v8, v9, v10, x, y, X, rfl, ⟨H.bel, (by have h := H.f0; simpa [doneSet] using h), (by have h := H.f1; simpa [doneSet] using h), (by have h := H.f2; simpa [doneSet] using h), (by have h := H.f3; simpa [doneSet] using h), (by have h := H.f4; simpa [doneSet] using h), (fun _ => rfl), (fun _ => rfl), (by have h := H.f7; simpa [doneSet] using h), (by have h := H.f8; simpa [doneSet] using h), (by have h := H.f10; simpa [doneSet] using h), (by have h := H.hx; simpa [doneSet] using h), (by have h := H.hy; simpa [doneSet] using h), (by have h := H.k8; simpa [doneSet] using h), (by have h := H.x8; simpa [doneSet] using h), (by have h := H.k9; simpa [doneSet] using h), (by have h := H.g5_4; simpa [doneSet] using h), (fun _ => by simpa [doneSet] using h4), (by have h := H.g9_4; simpa [doneSet] using h), (by have h := H.g9_8; simpa [doneSet] using h)⟩⟩
    simp only [putAll, Act.put, List.setIfInBounds_toArray, List.set_cons_succ, List.set_cons_zero]
    all_goals rfl
  · rintro d vs W ⟨v0, v1, v2, v3, v4, v5, v6, v7, v8, v9, v10, x, y, X, rfl, H⟩ hn hd
    simp only [putAll, Act.put, List.setIfInBounds_toArray, List.set_cons_succ, List.set_cons_zero]
    have h5 : d 5 = true := hd { on := 5, ground := .data } (by simp) rfl
    obtain rfl := H.f5 h5
    have HH1 : Hid (Rql (U0.drew) (a) (b) (c) (z) d W v0 v1 v2 v3 v4 (.tuple #[.agg #[.float .f64 x, .float .f64 y], .bool (qOk a b c z)]) v6 v7 v8 v9 v10 x y X) := H
    clear H
    have HHN : Hid (d 7 = false) := hn
    have HHD : Hid (d 5 = true) := h5
    clear hd hn h5
    go_wp2
    have H0 := HH1.out
    have H := HH1.out
    have hn := HHN.out
    have h5 := HHD.out
    refine ⟨rfl, [v0, v1, v2, v3, v4, .tuple #[.agg #[.float .f64 x, .float .f64 y], .bool (qOk a b c z)], v6, .bool (qOk a b c z), v8, v9, v10], ?_, v0, v1, v2, v3, v4, .tuple #[.agg #[.float .f64 x, .float .f64 y], .bool (qOk a b c z)], v6, .bool (qOk a b c z), v8, v9, v10, x, y, X, rfl, ⟨H.bel, (by have h := H.f0; simpa [doneSet] using h), (by have h := H.f1; simpa [doneSet] using h), (by have h := H.f2; simpa [doneSet] using h), (by have h := H.f3; simpa [doneSet] using h), (by have h := H.f4; simpa [doneSet] using h), (fun _ => rfl), (by have h := H.f6; simpa [doneSet] using h), (fun _ => rfl), (by have h := H.f8; simpa [doneSet] using h), (by have h := H.f10; simpa [doneSet] using h), (by have h := H.hx; simpa [doneSet] using h), (by have h := H.hy; simpa [doneSet] using h), (by have h := H.k8; simpa [doneSet] using h), (by have h := H.x8; simpa [doneSet] using h), (by have h := H.k9; simpa [doneSet] using h), (by have h := H.g5_4; simpa [doneSet] using h), (by have h := H.g6_4; simpa [doneSet] using h), (by have h := H.g9_4; simpa [doneSet] using h), (by have h := H.g9_8; simpa [doneSet] using h)⟩⟩
    simp only [putAll, Act.put, List.setIfInBounds_toArray, List.set_cons_succ, List.set_cons_zero]
    all_goals rfl
  · rintro d vs W ⟨v0, v1, v2, v3, v4, v5, v6, v7, v8, v9, v10, x, y, X, rfl, H⟩ hn hd
    simp only [putAll, Act.put, List.setIfInBounds_toArray, List.set_cons_succ, List.set_cons_zero]
    have HH1 : Hid (Rql (U0.drew) (a) (b) (c) (z) d W v0 v1 v2 v3 v4 v5 v6 v7 v8 v9 v10 x y X) := H
    clear H
    have HHN : Hid (d 8 = false) := hn
    clear hd hn
    go_wp2
    have H0 := HH1.out
    have H := HH1.out.below ((Below.refl _ W).alloc (Nat.le_refl _) (.cells #[.float .f64 0, .float .f64 0] 30))
    have hn := HHN.out
    refine ⟨rfl, [v0, v1, v2, v3, v4, v5, v6, v7, .pointer (some ⟨W.heap.size, 0, none⟩), v9, v10], ?_, v0, v1, v2, v3, v4, v5, v6, v7, .pointer (some ⟨W.heap.size, 0, none⟩), v9, v10, x, y, W.heap.size, rfl, ⟨H.bel, (by have h := H.f0; simpa [doneSet] using h), (by have h := H.f1; simpa [doneSet] using h), (by have h := H.f2; simpa [doneSet] using h), (by have h := H.f3; simpa [doneSet] using h), (by have h := H.f4; simpa [doneSet] using h), (by have h := H.f5; simpa [doneSet] using h), (by have h := H.f6; simpa [doneSet] using h), (by have h := H.f7; simpa [doneSet] using h), (fun _ => rfl), (by have h := H.f10; simpa [doneSet] using h), (by have h := H.hx; simpa [doneSet] using h), (by have h := H.hy; simpa [doneSet] using h), (fun _ _ => Blk.new _ _ _), (fun _ => H0.bel.size), (fun e => absurd (H0.g9_8 (by simpa [doneSet] using e)) (by rw [hn]; simp)), (by have h := H.g5_4; simpa [doneSet] using h), (by have h := H.g6_4; simpa [doneSet] using h), (by have h := H.g9_4; simpa [doneSet] using h), (fun _ => by simp [doneSet])⟩⟩
    simp only [putAll, Act.put, List.setIfInBounds_toArray, List.set_cons_succ, List.set_cons_zero]
    all_goals rfl
  · rintro d vs W ⟨v0, v1, v2, v3, v4, v5, v6, v7, v8, v9, v10, x, y, X, rfl, H⟩ hn hd
    simp only [putAll, Act.put, List.setIfInBounds_toArray, List.set_cons_succ, List.set_cons_zero]
    have h8 : d 8 = true := hd { on := 8, ground := .data } (by simp) rfl
    have h6 : d 6 = true := hd { on := 6, ground := .data } (by simp) rfl
    have h4 := H.g6_4 h6
    have K5 := H.k8 h8 hn
    have HK5 : Hid (Blk W X #[.float .f64 0, .float .f64 0] 30) := K5
    have HX5 : Hid (U0.drew.heap.size ≤ X) := H.x8 h8
    have z0 := K5.cell 0
    have z1 := K5.cell 1
    have f0 := K5.frozen 0
    have f1 := K5.frozen 1
    simp at z0 z1
    clear K5
    obtain rfl := H.f8 h8
    obtain rfl := H.f6 h6
    have HH1 : Hid (Rql (U0.drew) (a) (b) (c) (z) d W v0 v1 v2 v3 v4 v5 (.agg #[.float .f64 x, .float .f64 y]) v7 (.pointer (some ⟨X, 0, none⟩)) v9 v10 x y X) := H
    clear H
    have HHN : Hid (d 9 = false) := hn
    have HHD : Hid (d 8 = true ∧ d 6 = true) := ⟨h8, h6⟩
    clear hd hn h8 h6
    go_wp2
    have H0 := HH1.out
    have H := HH1.out
    have hn := HHN.out
    have h8 := HHD.out.1
    have h6 := HHD.out.2
    refine ⟨rfl, [v0, v1, v2, v3, v4, v5, .agg #[.float .f64 x, .float .f64 y], v7, .pointer (some ⟨X, 0, none⟩), undef, v10], ?_, v0, v1, v2, v3, v4, v5, .agg #[.float .f64 x, .float .f64 y], v7, .pointer (some ⟨X, 0, none⟩), undef, v10, x, y, X, rfl, ⟨(below_set2 H0.bel _ HX5.out _ _), (by have h := H.f0; simpa [doneSet] using h), (by have h := H.f1; simpa [doneSet] using h), (by have h := H.f2; simpa [doneSet] using h), (by have h := H.f3; simpa [doneSet] using h), (by have h := H.f4; simpa [doneSet] using h), (by have h := H.f5; simpa [doneSet] using h), (fun _ => rfl), (by have h := H.f7; simpa [doneSet] using h), (fun _ => rfl), (by have h := H.f10; simpa [doneSet] using h), (by have h := H.hx; simpa [doneSet] using h), (by have h := H.hy; simpa [doneSet] using h), (fun _ e => absurd e (by simp [doneSet])), (by have h := H.x8; simpa [doneSet] using h), (fun _ => Blk.set2 HK5.out _ _), (by have h := H.g5_4; simpa [doneSet] using h), (by have h := H.g6_4; simpa [doneSet] using h), (fun _ => by simpa [doneSet] using h4), (fun _ => by simpa [doneSet] using h8)⟩⟩
    simp only [putAll, Act.put, List.setIfInBounds_toArray, List.set_cons_succ, List.set_cons_zero]
    all_goals rfl
  · rintro d vs W ⟨v0, v1, v2, v3, v4, v5, v6, v7, v8, v9, v10, x, y, X, rfl, H⟩ hn hd
    simp only [putAll, Act.put, List.setIfInBounds_toArray, List.set_cons_succ, List.set_cons_zero]
    have h7 : d 7 = true := hd { on := 7, ground := .data } (by simp) rfl
    obtain rfl := H.f7 h7
    have HH1 : Hid (Rql (U0.drew) (a) (b) (c) (z) d W v0 v1 v2 v3 v4 v5 v6 (.bool (qOk a b c z)) v8 v9 v10 x y X) := H
    clear H
    have HHN : Hid (d 10 = false) := hn
    have HHD : Hid (d 7 = true) := h7
    clear hd hn h7
    go_wp2
    have H0 := HH1.out
    have H := HH1.out
    have hn := HHN.out
    have h7 := HHD.out
    refine ⟨rfl, [v0, v1, v2, v3, v4, v5, v6, .bool (qOk a b c z), v8, v9, .bool (qOk a b c z)], ?_, v0, v1, v2, v3, v4, v5, v6, .bool (qOk a b c z), v8, v9, .bool (qOk a b c z), x, y, X, rfl, ⟨H.bel, (by have h := H.f0; simpa [doneSet] using h), (by have h := H.f1; simpa [doneSet] using h), (by have h := H.f2; simpa [doneSet] using h), (by have h := H.f3; simpa [doneSet] using h), (by have h := H.f4; simpa [doneSet] using h), (by have h := H.f5; simpa [doneSet] using h), (by have h := H.f6; simpa [doneSet] using h), (fun _ => rfl), (by have h := H.f8; simpa [doneSet] using h), (fun _ => rfl), (by have h := H.hx; simpa [doneSet] using h), (by have h := H.hy; simpa [doneSet] using h), (by have h := H.k8; simpa [doneSet] using h), (by have h := H.x8; simpa [doneSet] using h), (by have h := H.k9; simpa [doneSet] using h), (by have h := H.g5_4; simpa [doneSet] using h), (by have h := H.g6_4; simpa [doneSet] using h), (by have h := H.g9_4; simpa [doneSet] using h), (by have h := H.g9_8; simpa [doneSet] using h)⟩⟩
    simp only [putAll, Act.put, List.setIfInBounds_toArray, List.set_cons_succ, List.set_cons_zero]
    all_goals rfl
  rintro d' vs W ⟨v0, v1, v2, v3, v4, v5, v6, v7, v8, v9, v10, x, y, X, rfl, H⟩ hn
  obtain rfl := H.f0 (hn 0 (by decide))
  obtain rfl := H.f1 (hn 1 (by decide))
  obtain rfl := H.f2 (hn 2 (by decide))
  obtain rfl := H.f3 (hn 3 (by decide))
  obtain rfl := H.f4 (hn 4 (by decide))
  obtain rfl := H.f5 (hn 5 (by decide))
  obtain rfl := H.f6 (hn 6 (by decide))
  obtain rfl := H.f7 (hn 7 (by decide))
  obtain rfl := H.f8 (hn 8 (by decide))
  obtain rfl := H.f10 (hn 10 (by decide))
  have HG1 : Hid (Blk W X #[.float .f64 x, .float .f64 y] 30) := H.k9 (hn 9 (by decide))
  have HX1 : Hid (fc .f64 x = qR a b c z) := H.hx (hn 4 (by decide))
  have HY1 : Hid (fc .f64 y = qI a b c z) := H.hy (hn 4 (by decide))
  have HU1 : Hid (Below U0.heap.size U0 W) := (Below.refl _ _).drew.trans H.bel
  have HB5 : Hid (Below W1.heap.size W1 W) := (HB3.out).trans (HU1.out.mono (HB3.out).size)
  clear H hn CE
  obtain ⟨U1, hv1⟩ : ∃ U, U = W := ⟨_, rfl⟩
  obtain ⟨x1, hx1⟩ : ∃ u, u = x := ⟨_, rfl⟩
  obtain ⟨y1, hy1⟩ : ∃ u, u = y := ⟨_, rfl⟩
  obtain ⟨X1, hX1⟩ : ∃ u, u = X := ⟨_, rfl⟩
  subst hv1 hx1 hy1 hX1
  simp only [putAll, Act.put, List.setIfInBounds_toArray, List.set_cons_succ, List.set_cons_zero]
  have HGB : Hid (Blk U1 X0 #[.float .f64 x0, .float .f64 y0] 30) := HG0.out.below HU1.out HG0.out.lt
  have y00 := HGB.out.cell 0
  have y01 := HGB.out.cell 1
  have y10 := HG1.out.cell 0
  have y11 := HG1.out.cell 1
  simp at y00 y01 y10 y11
  have HEQ : Hid (fc .f64 x1 = fc .f64 x0) := HX1.out.trans HX0.out.symm
  have HEY : Hid (fc .f64 y1 = fc .f64 y0) := HY1.out.trans HY0.out.symm
  have hne : (qOk a b c z != qOk a b c z) = false := by simp
  go_wp2_with (fail)
  refine (eqWide_c _ _ _ _ HEQ.out HEY.out _).mono ?_
  rintro e w9 ⟨rfl, b9⟩
  have HB9 : Hid (Below w.heap.size w w9) := belowCall HB1.out (HB5.out.trans (b9.mono HB5.out.size)) HB1.out.size
  clear b9 y00 y01 y10 y11
  go_wp2
  go_ret
  exact ⟨rfl, HB9.out⟩

end Go.Proofs.Ytfbegonnbdakpaa
