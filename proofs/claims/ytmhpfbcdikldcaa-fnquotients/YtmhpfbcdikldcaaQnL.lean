/- The walk of FnQuotients; no condition. -/
import Derived.Test.YtmhpfbcdikldcaaQnc
import Derived.Test.YtmhpfbcdikldcaaInv
import Derived.Test.YtmhpfbcdikldcaaDet
namespace Go.Proofs.Ytmhpfbcdikldcaa
open Go.RowKit Go.ChangeShapes Go.WideShapes Go.ChangeAt
set_option linter.unusedVariables false
set_option linter.unusedSimpArgs false
set_option maxRecDepth 8000
structure Qp (Wd : World) (a : Nat) (b : Nat) (c : Nat) (dd : Nat) (m1 : Nat) (m2 : Nat) (q1 : Nat) (q2 : Nat) (p1 : Nat) (p2 : Nat) (u1 : Nat) (u2 : Nat) (n1 : Nat) (n2 : Nat) (o1 : Nat) (o2 : Nat) (d : Nat → Bool) (W : World) (v0 v1 v2 v3 v4 v5 v6 v7 v8 v9 v10 : Value) (X : Nat) : Prop where
  bel : Below Wd.heap.size Wd W
  f0 : d 0 = true → v0 = .agg #[.float .f32 a, .float .f32 b]
  f1 : d 1 = true → v1 = .agg #[.float .f32 c, .float .f32 dd]
  f2 : d 2 = true → v2 = .agg #[.float .f32 m1, .float .f32 m2]
  f3 : d 3 = true → v3 = .agg #[.float .f32 c, .float .f32 dd]
  f4 : d 4 = true → v4 = .tuple #[.agg #[.float .f32 q1, .float .f32 q2], .bool true]
  f5 : d 5 = true → v5 = .tuple #[.agg #[.float .f32 q1, .float .f32 q2], .bool true]
  f6 : d 6 = true → v6 = .agg #[.float .f32 q1, .float .f32 q2]
  f7 : d 7 = true → v7 = .bool true
  f8 : d 8 = true → v8 = .pointer (some ⟨X, 0, none⟩)
  f10 : d 10 = true → v10 = .bool true
  k8 : d 8 = true → d 9 = false → Blk W X #[.float .f32 0, .float .f32 0] 26
  x8 : d 8 = true → Wd.heap.size ≤ X
  k9 : d 9 = true → Blk W X #[.float .f32 q1, .float .f32 q2] 26
  g9_8 : d 9 = true → d 8 = true
def QpS (Wd : World) (a : Nat) (b : Nat) (c : Nat) (dd : Nat) (m1 : Nat) (m2 : Nat) (q1 : Nat) (q2 : Nat) (p1 : Nat) (p2 : Nat) (u1 : Nat) (u2 : Nat) (n1 : Nat) (n2 : Nat) (o1 : Nat) (o2 : Nat) (d : Nat → Bool) (q : List Value) (W : World) : Prop := ∃ v0 v1 v2 v3 v4 v5 v6 v7 v8 v9 v10 X, q = [v0, v1, v2, v3, v4, v5, v6, v7, v8, v9, v10] ∧ Qp Wd a b c dd m1 m2 q1 q2 p1 p2 u1 u2 n1 n2 o1 o2 d W v0 v1 v2 v3 v4 v5 v6 v7 v8 v9 v10 X
theorem Qp.below {Wd : World} {a : Nat} {b : Nat} {c : Nat} {dd : Nat} {m1 : Nat} {m2 : Nat} {q1 : Nat} {q2 : Nat} {p1 : Nat} {p2 : Nat} {u1 : Nat} {u2 : Nat} {n1 : Nat} {n2 : Nat} {o1 : Nat} {o2 : Nat} {d : Nat → Bool} {W W' : World} {v0 v1 v2 v3 v4 v5 v6 v7 v8 v9 v10 : Value} {X : Nat} (h : Qp Wd a b c dd m1 m2 q1 q2 p1 p2 u1 u2 n1 n2 o1 o2 d W v0 v1 v2 v3 v4 v5 v6 v7 v8 v9 v10 X) (hb : Below W.heap.size W W') : Qp Wd a b c dd m1 m2 q1 q2 p1 p2 u1 u2 n1 n2 o1 o2 d W' v0 v1 v2 v3 v4 v5 v6 v7 v8 v9 v10 X :=
  { h with
    bel := belowCall h.bel hb h.bel.size
    k8 := fun e0 e1 => (h.k8 e0 e1).below hb (h.k8 e0 e1).lt
    k9 := fun e0 => (h.k9 e0).below hb (h.k9 e0).lt
  }
structure Qs (Wd : World) (a : Nat) (b : Nat) (c : Nat) (dd : Nat) (m1 : Nat) (m2 : Nat) (q1 : Nat) (q2 : Nat) (p1 : Nat) (p2 : Nat) (u1 : Nat) (u2 : Nat) (n1 : Nat) (n2 : Nat) (o1 : Nat) (o2 : Nat) (d : Nat → Bool) (W : World) (v0 v1 v2 v3 v4 v5 v6 v7 v8 v9 v10 v11 v12 v13 : Value) (X : Nat) : Prop where
  bel : Below Wd.heap.size Wd W
  f0 : d 0 = true → v0 = .agg #[.float .f32 a, .float .f32 b]
  f1 : d 1 = true → v1 = .agg #[.float .f64 (wid a), .float .f64 (wid b)]
  f2 : d 2 = true → v2 = .agg #[.float .f32 c, .float .f32 dd]
  f3 : d 3 = true → v3 = .agg #[.float .f64 (wid c), .float .f64 (wid dd)]
  f4 : d 4 = true → v4 = .agg #[.float .f64 p1, .float .f64 p2]
  f5 : d 5 = true → v5 = .agg #[.float .f32 c, .float .f32 dd]
  f6 : d 6 = true → v6 = .agg #[.float .f64 (wid c), .float .f64 (wid dd)]
  f7 : d 7 = true → v7 = .tuple #[.agg #[.float .f64 u1, .float .f64 u2], .bool true]
  f8 : d 8 = true → v8 = .tuple #[.agg #[.float .f64 u1, .float .f64 u2], .bool true]
  f9 : d 9 = true → v9 = .agg #[.float .f64 u1, .float .f64 u2]
  f10 : d 10 = true → v10 = .bool true
  f11 : d 11 = true → v11 = .pointer (some ⟨X, 0, none⟩)
  f13 : d 13 = true → v13 = .bool true
  k11 : d 11 = true → d 12 = false → Blk W X #[.float .f64 0, .float .f64 0] 34
  x11 : d 11 = true → Wd.heap.size ≤ X
  k12 : d 12 = true → Blk W X #[.float .f64 u1, .float .f64 u2] 34
  g12_11 : d 12 = true → d 11 = true
def QsS (Wd : World) (a : Nat) (b : Nat) (c : Nat) (dd : Nat) (m1 : Nat) (m2 : Nat) (q1 : Nat) (q2 : Nat) (p1 : Nat) (p2 : Nat) (u1 : Nat) (u2 : Nat) (n1 : Nat) (n2 : Nat) (o1 : Nat) (o2 : Nat) (d : Nat → Bool) (q : List Value) (W : World) : Prop := ∃ v0 v1 v2 v3 v4 v5 v6 v7 v8 v9 v10 v11 v12 v13 X, q = [v0, v1, v2, v3, v4, v5, v6, v7, v8, v9, v10, v11, v12, v13] ∧ Qs Wd a b c dd m1 m2 q1 q2 p1 p2 u1 u2 n1 n2 o1 o2 d W v0 v1 v2 v3 v4 v5 v6 v7 v8 v9 v10 v11 v12 v13 X
theorem Qs.below {Wd : World} {a : Nat} {b : Nat} {c : Nat} {dd : Nat} {m1 : Nat} {m2 : Nat} {q1 : Nat} {q2 : Nat} {p1 : Nat} {p2 : Nat} {u1 : Nat} {u2 : Nat} {n1 : Nat} {n2 : Nat} {o1 : Nat} {o2 : Nat} {d : Nat → Bool} {W W' : World} {v0 v1 v2 v3 v4 v5 v6 v7 v8 v9 v10 v11 v12 v13 : Value} {X : Nat} (h : Qs Wd a b c dd m1 m2 q1 q2 p1 p2 u1 u2 n1 n2 o1 o2 d W v0 v1 v2 v3 v4 v5 v6 v7 v8 v9 v10 v11 v12 v13 X) (hb : Below W.heap.size W W') : Qs Wd a b c dd m1 m2 q1 q2 p1 p2 u1 u2 n1 n2 o1 o2 d W' v0 v1 v2 v3 v4 v5 v6 v7 v8 v9 v10 v11 v12 v13 X :=
  { h with
    bel := belowCall h.bel hb h.bel.size
    k11 := fun e0 e1 => (h.k11 e0 e1).below hb (h.k11 e0 e1).lt
    k12 := fun e0 => (h.k12 e0).below hb (h.k12 e0).lt
  }

theorem at_k {c12 : Array Value} (hc : c12 = #[.float .f32 1065353216, .float .f32 0, .float .f32 3212836864, .float .f32 0, .float .f32 0, .float .f32 1065353216, .float .f32 1065353216, .float .f32 1065353216, .float .f32 3212836864, .float .f32 1065353216, .float .f32 1073741824, .float .f32 0]) (k : Nat) (hk : k < 6) :
    c12[k * 2]? = some (.float .f32 (bF k).1) ∧ c12[k * 2 + 1]? = some (.float .f32 (bF k).2) := by
  subst hc
  match k, hk with
  | 0, _ => exact ⟨rfl, rfl⟩
  | 1, _ => exact ⟨rfl, rfl⟩
  | 2, _ => exact ⟨rfl, rfl⟩
  | 3, _ => exact ⟨rfl, rfl⟩
  | 4, _ => exact ⟨rfl, rfl⟩
  | 5, _ => exact ⟨rfl, rfl⟩
set_option maxHeartbeats 16000000 in
theorem quotientsLaw (v : Value) (zs : List Int) (w : World) (h : Rd .u8 w v zs) (hok : ∀ z ∈ zs, 0 ≤ z ∧ z ≤ 255) : Calls Try.prog 4 #[v] w fun e w' => e = .returned (.bool true) ∧ Below w.heap.size w w' := by
  have HR : Hid (Rd .u8 w v zs) := h
  have HOK : Hid (∀ z ∈ zs, 0 ≤ z ∧ z ≤ 255) := hok
  clear h hok
  have hsf := storeF
  by_cases hbig : (1048576 : Int) < (zs.length : Int)
  case pos =>
    have HBG : Hid (decide ((1048576 : Int) < (zs.length : Int)) = true) := decide_eq_true hbig
    clear hbig
    go_enter Try.func4, Try.ntmps4
    go_wp2_with (fail)
    refine (big_c v zs w HR.out).mono ?_
    rintro e w' ⟨rfl, hw⟩
    rw [hw, HBG.out]
    clear hw
    go_wp2
    go_ret
    exact ⟨rfl, Below.refl _ _⟩
  have HBG : Hid (decide ((1048576 : Int) < (zs.length : Int)) = false) := decide_eq_false hbig
  have HLN : Hid (zs.length ≤ 1048576) := by show _ ≤ _; omega
  clear hbig
  go_enter Try.func4, Try.ntmps4
  go_wp2_with (fail)
  refine (big_c v zs w HR.out).mono ?_
  rintro e w' ⟨rfl, hw⟩
  rw [hw, HBG.out]
  clear hw
  go_wp2_with (fail)
  refine (at_c v zs 0 w HR.out HOK.out (by omega) (by omega) HLN.out).mono ?_
  rintro e w' ⟨x, rfl, x0, x1, hw⟩
  rw [hw]
  clear hw
  go_wp2_with (fail)
  refine (at_c v zs 1 w HR.out HOK.out (by omega) (by omega) HLN.out).mono ?_
  rintro e w' ⟨y, rfl, y0, y1, hw⟩
  rw [hw]
  clear hw
  have HXY : Hid (0 ≤ x ∧ x ≤ 255 ∧ 0 ≤ y ∧ y ≤ 255) := ⟨x0, x1, y0, y1⟩
  clear x0 x1 y0 y1
  have e1 : wrap64 (x - 128) = x - 128 := wrap64_in (by have := HXY.out; omega)
  have e2 : wrap64 (y - 100) = y - 100 := wrap64_in (by have := HXY.out; omega)
  obtain ⟨a, hxa⟩ : ∃ z, floatOfInt .f32 (x - 128) = z := ⟨_, rfl⟩
  obtain ⟨b, hxb⟩ : ∃ z, floatOfInt .f32 (y - 100) = z := ⟨_, rfl⟩
  have HA : Hid (Wz .f32 (x - 128) a) := by rw [← hxa, fi_of]; exact Wz.fi ..
  have HBB : Hid (Wz .f32 (y - 100) b) := by rw [← hxb, fi_of]; exact Wz.fi ..
  obtain ⟨c12, hc12⟩ : ∃ c : Array Value, #[.float .f32 1065353216, .float .f32 0, .float .f32 3212836864, .float .f32 0, .float .f32 0, .float .f32 1065353216, .float .f32 1065353216, .float .f32 1065353216, .float .f32 3212836864, .float .f32 1065353216, .float .f32 1073741824, .float .f32 0] = c := ⟨_, rfl⟩
  have HC12 : Hid (c12 = #[.float .f32 1065353216, .float .f32 0, .float .f32 3212836864, .float .f32 0, .float .f32 0, .float .f32 1065353216, .float .f32 1065353216, .float .f32 1065353216, .float .f32 3212836864, .float .f32 1065353216, .float .f32 1073741824, .float .f32 0]) := hc12.symm
  obtain ⟨W2, hW2⟩ : ∃ W, (w.alloc (Obj.cells #[.float .f32 a, .float .f32 b] 26)).alloc (Obj.cells c12 26) = W := ⟨_, rfl⟩
  have HB2 : Hid (Below w.heap.size w W2) := by rw [← hW2]; exact ((Below.refl _ _).alloc (Nat.le_refl _) _).alloc (by simp) _
  have HK0 : Hid (Blk W2 w.heap.size #[.float .f32 a, .float .f32 b] 26) := by rw [← hW2]; exact (Blk.new _ _ _).alloc _
  have HK1 : Hid (Blk W2 (w.heap.size + 1) c12 26) := by rw [← hW2]; exact Blk.newAt _ _ _ _ (by simp)
  have HW2 : Hid (floatOfInt .f32 (x - 128) = a ∧ floatOfInt .f32 (y - 100) = b ∧ #[.float .f32 1065353216, .float .f32 0, .float .f32 3212836864, .float .f32 0, .float .f32 0, .float .f32 1065353216, .float .f32 1065353216, .float .f32 1065353216, .float .f32 3212836864, .float .f32 1065353216, .float .f32 1073741824, .float .f32 0] = c12 ∧ (w.alloc (Obj.cells #[.float .f32 a, .float .f32 b] 26)).alloc (Obj.cells c12 26) = W2) := ⟨hxa, hxb, hc12, hW2⟩
  clear hxa hxb hc12 hW2
  go_wp2_with (fail)
  rw [HW2.out.1, HW2.out.2.1, HW2.out.2.2.1, HW2.out.2.2.2]
  have HR2 : Hid (Rd .u8 W2 v zs) := HR.out.below HB2.out
  clear HW2 e1 e2
  refine (at_c v zs 2 W2 HR2.out HOK.out (by omega) (by omega) HLN.out).mono ?_
  rintro e w' ⟨z, rfl, z0, z1, hw⟩
  rw [hw]
  clear hw
  obtain ⟨k, hk⟩ : ∃ k : Nat, z.tmod 6 = (k : Int) := ⟨(z.tmod 6).toNat, by rw [Int.toNat_of_nonneg]; exact Int.tmod_nonneg 6 z0⟩
  have hk6 : k < 6 := by
    have h1 := Int.tmod_lt_of_pos z (b := 6) (by omega)
    omega
  have HKK : Hid (k < 6) := hk6
  clear z0 z1
  obtain ⟨hc0, hc1⟩ := at_k HC12.out k hk6
  have c0 := HK1.out.cell (k * 2)
  have c1 := HK1.out.cell (k * 2 + 1)
  rw [hc0] at c0
  rw [hc1] at c1
  clear hc0 hc1
  obtain ⟨m1, m2, q1, q2, p1, p2, u1, u2, n1, n2, o1, o2, hQ⟩ := allQ k hk6 (x - 128) (y - 100) (by have := HXY.out; omega) (by have := HXY.out; omega) a b HA.out HBB.out
  generalize (bF k).1 = c at *
  generalize (bF k).2 = dd at *
  have HQ : Hid (QC a b c dd m1 m2 q1 q2 p1 p2 u1 u2 n1 n2 o1 o2) := hQ
  clear hQ
  obtain ⟨W3, hW3⟩ : ∃ W, W2.alloc (Obj.cells #[.float .f32 c, .float .f32 dd] 26) = W := ⟨_, rfl⟩
  have HB3 : Hid (Below w.heap.size w W3) := by rw [← hW3]; exact HB2.out.alloc HB2.out.size _
  have HK3 : Hid (Blk W3 w.heap.size #[.float .f32 a, .float .f32 b] 26) := by rw [← hW3]; exact HK0.out.alloc _
  have HK4 : Hid (Blk W3 W2.heap.size #[.float .f32 c, .float .f32 dd] 26) := by rw [← hW3]; exact Blk.new _ _ _
  have HW3 : Hid (W2.alloc (Obj.cells #[.float .f32 c, .float .f32 dd] 26) = W3) := hW3
  clear hW3
  go_wp2_with (fail)
  rw [HW3.out]
  clear HW3 c0 c1 HC12 HK1
  refine region_vals [undef, undef, undef, undef, undef, undef, undef, undef, undef, undef, undef] (QpS (W3.drew) (a) (b) (c) (dd) (m1) (m2) (q1) (q2) (p1) (p2) (u1) (u2) (n1) (n2) (o1) (o2)) (by kernel_rfl) (by kernel_rfl) ?_ ⟨?_, ?_, ?_, ?_, ?_, ?_, ?_, ?_, ?_, ?_, ?_, trivial⟩ ?_
  · refine ⟨_, _, _, _, _, _, _, _, _, _, _, 0, rfl, ⟨(Below.refl _ _), ?_, ?_, ?_, ?_, ?_, ?_, ?_, ?_, ?_, ?_, ?_, ?_, ?_, ?_⟩⟩ <;> simp
  · rintro d vs W ⟨v0, v1, v2, v3, v4, v5, v6, v7, v8, v9, v10, X, rfl, H⟩ hn hd
    simp only [putAll, Act.put, List.setIfInBounds_toArray, List.set_cons_succ, List.set_cons_zero]
    have KK := HK3.out.below ((Below.refl _ _).drew.trans H.bel) HK3.out.lt
    have z0 := KK.cell 0
    have z1 := KK.cell 1
    simp at z0 z1
    clear KK
    have HH1 : Hid (Qp (W3.drew) (a) (b) (c) (dd) (m1) (m2) (q1) (q2) (p1) (p2) (u1) (u2) (n1) (n2) (o1) (o2) d W v0 v1 v2 v3 v4 v5 v6 v7 v8 v9 v10 X) := H
    clear H
    have HHN : Hid (d 0 = false) := hn
    clear hd hn
    go_wp2
    have H0 := HH1.out
    have H := HH1.out
    have hn := HHN.out
    refine ⟨rfl, [.agg #[.float .f32 a, .float .f32 b], v1, v2, v3, v4, v5, v6, v7, v8, v9, v10], ?_, .agg #[.float .f32 a, .float .f32 b], v1, v2, v3, v4, v5, v6, v7, v8, v9, v10, X, rfl, ⟨H.bel, (fun _ => rfl), (by have h := H.f1; simpa [doneSet] using h), (by have h := H.f2; simpa [doneSet] using h), (by have h := H.f3; simpa [doneSet] using h), (by have h := H.f4; simpa [doneSet] using h), (by have h := H.f5; simpa [doneSet] using h), (by have h := H.f6; simpa [doneSet] using h), (by have h := H.f7; simpa [doneSet] using h), (by have h := H.f8; simpa [doneSet] using h), (by have h := H.f10; simpa [doneSet] using h), (by have h := H.k8; simpa [doneSet] using h), (by have h := H.x8; simpa [doneSet] using h), (by have h := H.k9; simpa [doneSet] using h), (by have h := H.g9_8; simpa [doneSet] using h)⟩⟩
    simp only [putAll, Act.put, List.setIfInBounds_toArray, List.set_cons_succ, List.set_cons_zero]
    all_goals rfl
  · rintro d vs W ⟨v0, v1, v2, v3, v4, v5, v6, v7, v8, v9, v10, X, rfl, H⟩ hn hd
    simp only [putAll, Act.put, List.setIfInBounds_toArray, List.set_cons_succ, List.set_cons_zero]
    have KK := HK4.out.below ((Below.refl _ _).drew.trans H.bel) HK4.out.lt
    have z0 := KK.cell 0
    have z1 := KK.cell 1
    simp at z0 z1
    clear KK
    have HH1 : Hid (Qp (W3.drew) (a) (b) (c) (dd) (m1) (m2) (q1) (q2) (p1) (p2) (u1) (u2) (n1) (n2) (o1) (o2) d W v0 v1 v2 v3 v4 v5 v6 v7 v8 v9 v10 X) := H
    clear H
    have HHN : Hid (d 1 = false) := hn
    clear hd hn
    go_wp2
    have H0 := HH1.out
    have H := HH1.out
    have hn := HHN.out
    refine ⟨rfl, [v0, .agg #[.float .f32 c, .float .f32 dd], v2, v3, v4, v5, v6, v7, v8, v9, v10], ?_, v0, .agg #[.float .f32 c, .float .f32 dd], v2, v3, v4, v5, v6, v7, v8, v9, v10, X, rfl, ⟨H.bel, (by have h := H.f0; simpa [doneSet] using h), (fun _ => rfl), (by have h := H.f2; simpa [doneSet] using h), (by have h := H.f3; simpa [doneSet] using h), (by have h := H.f4; simpa [doneSet] using h), (by have h := H.f5; simpa [doneSet] using h), (by have h := H.f6; simpa [doneSet] using h), (by have h := H.f7; simpa [doneSet] using h), (by have h := H.f8; simpa [doneSet] using h), (by have h := H.f10; simpa [doneSet] using h), (by have h := H.k8; simpa [doneSet] using h), (by have h := H.x8; simpa [doneSet] using h), (by have h := H.k9; simpa [doneSet] using h), (by have h := H.g9_8; simpa [doneSet] using h)⟩⟩
    simp only [putAll, Act.put, List.setIfInBounds_toArray, List.set_cons_succ, List.set_cons_zero]
    all_goals rfl
  · rintro d vs W ⟨v0, v1, v2, v3, v4, v5, v6, v7, v8, v9, v10, X, rfl, H⟩ hn hd
    simp only [putAll, Act.put, List.setIfInBounds_toArray, List.set_cons_succ, List.set_cons_zero]
    have h0 : d 0 = true := hd { on := 0, ground := .data } (by simp) rfl
    have h1 : d 1 = true := hd { on := 1, ground := .data } (by simp) rfl
    obtain rfl := H.f0 h0
    obtain rfl := H.f1 h1
    have HH1 : Hid (Qp (W3.drew) (a) (b) (c) (dd) (m1) (m2) (q1) (q2) (p1) (p2) (u1) (u2) (n1) (n2) (o1) (o2) d W (.agg #[.float .f32 a, .float .f32 b]) (.agg #[.float .f32 c, .float .f32 dd]) v2 v3 v4 v5 v6 v7 v8 v9 v10 X) := H
    clear H
    have HHN : Hid (d 2 = false) := hn
    have HHD : Hid (d 0 = true ∧ d 1 = true) := ⟨h0, h1⟩
    clear hd hn h0 h1
    go_wp2_with (fail)
    refine (HQ.out.c7 W).mono ?_
    rintro e W3 ⟨rfl, b7⟩
    have HB7 : Hid (Below W.heap.size W W3) := b7
    clear b7
    go_wp2
    have H0 := HH1.out
    have H := HH1.out.below HB7.out
    have hn := HHN.out
    have h0 := HHD.out.1
    have h1 := HHD.out.2
    refine ⟨rfl, [.agg #[.float .f32 a, .float .f32 b], .agg #[.float .f32 c, .float .f32 dd], .agg #[.float .f32 m1, .float .f32 m2], v3, v4, v5, v6, v7, v8, v9, v10], ?_, .agg #[.float .f32 a, .float .f32 b], .agg #[.float .f32 c, .float .f32 dd], .agg #[.float .f32 m1, .float .f32 m2], v3, v4, v5, v6, v7, v8, v9, v10, X, rfl, ⟨H.bel, (fun _ => rfl), (fun _ => rfl), (fun _ => rfl), (by have h := H.f3; simpa [doneSet] using h), (by have h := H.f4; simpa [doneSet] using h), (by have h := H.f5; simpa [doneSet] using h), (by have h := H.f6; simpa [doneSet] using h), (by have h := H.f7; simpa [doneSet] using h), (by have h := H.f8; simpa [doneSet] using h), (by have h := H.f10; simpa [doneSet] using h), (by have h := H.k8; simpa [doneSet] using h), (by have h := H.x8; simpa [doneSet] using h), (by have h := H.k9; simpa [doneSet] using h), (by have h := H.g9_8; simpa [doneSet] using h)⟩⟩
    simp only [putAll, Act.put, List.setIfInBounds_toArray, List.set_cons_succ, List.set_cons_zero]
    all_goals rfl
  · rintro d vs W ⟨v0, v1, v2, v3, v4, v5, v6, v7, v8, v9, v10, X, rfl, H⟩ hn hd
    simp only [putAll, Act.put, List.setIfInBounds_toArray, List.set_cons_succ, List.set_cons_zero]
    have KK := HK4.out.below ((Below.refl _ _).drew.trans H.bel) HK4.out.lt
    have z0 := KK.cell 0
    have z1 := KK.cell 1
    simp at z0 z1
    clear KK
    have HH1 : Hid (Qp (W3.drew) (a) (b) (c) (dd) (m1) (m2) (q1) (q2) (p1) (p2) (u1) (u2) (n1) (n2) (o1) (o2) d W v0 v1 v2 v3 v4 v5 v6 v7 v8 v9 v10 X) := H
    clear H
    have HHN : Hid (d 3 = false) := hn
    clear hd hn
    go_wp2
    have H0 := HH1.out
    have H := HH1.out
    have hn := HHN.out
    refine ⟨rfl, [v0, v1, v2, .agg #[.float .f32 c, .float .f32 dd], v4, v5, v6, v7, v8, v9, v10], ?_, v0, v1, v2, .agg #[.float .f32 c, .float .f32 dd], v4, v5, v6, v7, v8, v9, v10, X, rfl, ⟨H.bel, (by have h := H.f0; simpa [doneSet] using h), (by have h := H.f1; simpa [doneSet] using h), (by have h := H.f2; simpa [doneSet] using h), (fun _ => rfl), (by have h := H.f4; simpa [doneSet] using h), (by have h := H.f5; simpa [doneSet] using h), (by have h := H.f6; simpa [doneSet] using h), (by have h := H.f7; simpa [doneSet] using h), (by have h := H.f8; simpa [doneSet] using h), (by have h := H.f10; simpa [doneSet] using h), (by have h := H.k8; simpa [doneSet] using h), (by have h := H.x8; simpa [doneSet] using h), (by have h := H.k9; simpa [doneSet] using h), (by have h := H.g9_8; simpa [doneSet] using h)⟩⟩
    simp only [putAll, Act.put, List.setIfInBounds_toArray, List.set_cons_succ, List.set_cons_zero]
    all_goals rfl
  · rintro d vs W ⟨v0, v1, v2, v3, v4, v5, v6, v7, v8, v9, v10, X, rfl, H⟩ hn hd
    simp only [putAll, Act.put, List.setIfInBounds_toArray, List.set_cons_succ, List.set_cons_zero]
    have h2 : d 2 = true := hd { on := 2, ground := .data } (by simp) rfl
    have h3 : d 3 = true := hd { on := 3, ground := .data } (by simp) rfl
    obtain rfl := H.f2 h2
    obtain rfl := H.f3 h3
    have HH1 : Hid (Qp (W3.drew) (a) (b) (c) (dd) (m1) (m2) (q1) (q2) (p1) (p2) (u1) (u2) (n1) (n2) (o1) (o2) d W v0 v1 (.agg #[.float .f32 m1, .float .f32 m2]) (.agg #[.float .f32 c, .float .f32 dd]) v4 v5 v6 v7 v8 v9 v10 X) := H
    clear H
    have HHN : Hid (d 4 = false) := hn
    have HHD : Hid (d 2 = true ∧ d 3 = true) := ⟨h2, h3⟩
    clear hd hn h2 h3
    go_wp2_with (fail)
    refine (HQ.out.c18 W).mono ?_
    rintro e W3 ⟨rfl, b7⟩
    have HB7 : Hid (Below W.heap.size W W3) := b7
    clear b7
    go_wp2
    have H0 := HH1.out
    have H := HH1.out.below HB7.out
    have hn := HHN.out
    have h2 := HHD.out.1
    have h3 := HHD.out.2
    refine ⟨rfl, [v0, v1, .agg #[.float .f32 m1, .float .f32 m2], .agg #[.float .f32 c, .float .f32 dd], .tuple #[.agg #[.float .f32 q1, .float .f32 q2], .bool true], v5, v6, v7, v8, v9, v10], ?_, v0, v1, .agg #[.float .f32 m1, .float .f32 m2], .agg #[.float .f32 c, .float .f32 dd], .tuple #[.agg #[.float .f32 q1, .float .f32 q2], .bool true], v5, v6, v7, v8, v9, v10, X, rfl, ⟨H.bel, (by have h := H.f0; simpa [doneSet] using h), (by have h := H.f1; simpa [doneSet] using h), (fun _ => rfl), (fun _ => rfl), (fun _ => rfl), (by have h := H.f5; simpa [doneSet] using h), (by have h := H.f6; simpa [doneSet] using h), (by have h := H.f7; simpa [doneSet] using h), (by have h := H.f8; simpa [doneSet] using h), (by have h := H.f10; simpa [doneSet] using h), (by have h := H.k8; simpa [doneSet] using h), (by have h := H.x8; simpa [doneSet] using h), (by have h := H.k9; simpa [doneSet] using h), (by have h := H.g9_8; simpa [doneSet] using h)⟩⟩
    simp only [putAll, Act.put, List.setIfInBounds_toArray, List.set_cons_succ, List.set_cons_zero]
    all_goals rfl
  · rintro d vs W ⟨v0, v1, v2, v3, v4, v5, v6, v7, v8, v9, v10, X, rfl, H⟩ hn hd
    simp only [putAll, Act.put, List.setIfInBounds_toArray, List.set_cons_succ, List.set_cons_zero]
    have h4 : d 4 = true := hd { on := 4, ground := .data } (by simp) rfl
    obtain rfl := H.f4 h4
    have HH1 : Hid (Qp (W3.drew) (a) (b) (c) (dd) (m1) (m2) (q1) (q2) (p1) (p2) (u1) (u2) (n1) (n2) (o1) (o2) d W v0 v1 v2 v3 (.tuple #[.agg #[.float .f32 q1, .float .f32 q2], .bool true]) v5 v6 v7 v8 v9 v10 X) := H
    clear H
    have HHN : Hid (d 5 = false) := hn
    have HHD : Hid (d 4 = true) := h4
    clear hd hn h4
    go_wp2
    have H0 := HH1.out
    have H := HH1.out
    have hn := HHN.out
    have h4 := HHD.out
    refine ⟨rfl, [v0, v1, v2, v3, .tuple #[.agg #[.float .f32 q1, .float .f32 q2], .bool true], .tuple #[.agg #[.float .f32 q1, .float .f32 q2], .bool true], v6, v7, v8, v9, v10], ?_, v0, v1, v2, v3, .tuple #[.agg #[.float .f32 q1, .float .f32 q2], .bool true], .tuple #[.agg #[.float .f32 q1, .float .f32 q2], .bool true], v6, v7, v8, v9, v10, X, rfl, ⟨H.bel, (by have h := H.f0; simpa [doneSet] using h), (by have h := H.f1; simpa [doneSet] using h), (by have h := H.f2; simpa [doneSet] using h), (by have h := H.f3; simpa [doneSet] using h), (fun _ => rfl), (fun _ => rfl), (by have h := H.f6; simpa [doneSet] using h), (by have h := H.f7; simpa [doneSet] using h), (by have h := H.f8; simpa [doneSet] using h), (by have h := H.f10; simpa [doneSet] using h), (by have h := H.k8; simpa [doneSet] using h), (by have h := H.x8; simpa [doneSet] using h), (by have h := H.k9; simpa [doneSet] using h), (by have h := H.g9_8; simpa [doneSet] using h)⟩⟩
    simp only [putAll, Act.put, List.setIfInBounds_toArray, List.set_cons_succ, List.set_cons_zero]
    all_goals rfl
  · rintro d vs W ⟨v0, v1, v2, v3, v4, v5, v6, v7, v8, v9, v10, X, rfl, H⟩ hn hd
    simp only [putAll, Act.put, List.setIfInBounds_toArray, List.set_cons_succ, List.set_cons_zero]
    have h5 : d 5 = true := hd { on := 5, ground := .data } (by simp) rfl
    obtain rfl := H.f5 h5
    have HH1 : Hid (Qp (W3.drew) (a) (b) (c) (dd) (m1) (m2) (q1) (q2) (p1) (p2) (u1) (u2) (n1) (n2) (o1) (o2) d W v0 v1 v2 v3 v4 (.tuple #[.agg #[.float .f32 q1, .float .f32 q2], .bool true]) v6 v7 v8 v9 v10 X) := H
    clear H
    have HHN : Hid (d 6 = false) := hn
    have HHD : Hid (d 5 = true) := h5
    clear hd hn h5
    go_wp2
    have H0 := HH1.out
    have H := HH1.out
    have hn := HHN.out
    have h5 := HHD.out
    refine ⟨rfl, [v0, v1, v2, v3, v4, .tuple #[.agg #[.float .f32 q1, .float .f32 q2], .bool true], .agg #[.float .f32 q1, .float .f32 q2], v7, v8, v9, v10], ?_, v0, v1, v2, v3, v4, .tuple #[.agg #[.float .f32 q1, .float .f32 q2], .bool true], .agg #[.float .f32 q1, .float .f32 q2], v7, v8, v9, v10, X, rfl, ⟨H.bel, (by have h := H.f0; simpa [doneSet] using h), (by have h := H.f1; simpa [doneSet] using h), (by have h := H.f2; simpa [doneSet] using h), (by have h := H.f3; simpa [doneSet] using h), (by have h := H.f4; simpa [doneSet] using h), (fun _ => rfl), (fun _ => rfl), (by have h := H.f7; simpa [doneSet] using h), (by have h := H.f8; simpa [doneSet] using h), (by have h := H.f10; simpa [doneSet] using h), (by have h := H.k8; simpa [doneSet] using h), (by have h := H.x8; simpa [doneSet] using h), (by have h := H.k9; simpa [doneSet] using h), (by have h := H.g9_8; simpa [doneSet] using h)⟩⟩
    simp only [putAll, Act.put, List.setIfInBounds_toArray, List.set_cons_succ, List.set_cons_zero]
    all_goals rfl
  · rintro d vs W ⟨v0, v1, v2, v3, v4, v5, v6, v7, v8, v9, v10, X, rfl, H⟩ hn hd
    simp only [putAll, Act.put, List.setIfInBounds_toArray, List.set_cons_succ, List.set_cons_zero]
    have h5 : d 5 = true := hd { on := 5, ground := .data } (by simp) rfl
    obtain rfl := H.f5 h5
    have HH1 : Hid (Qp (W3.drew) (a) (b) (c) (dd) (m1) (m2) (q1) (q2) (p1) (p2) (u1) (u2) (n1) (n2) (o1) (o2) d W v0 v1 v2 v3 v4 (.tuple #[.agg #[.float .f32 q1, .float .f32 q2], .bool true]) v6 v7 v8 v9 v10 X) := H
    clear H
    have HHN : Hid (d 7 = false) := hn
    have HHD : Hid (d 5 = true) := h5
    clear hd hn h5
    go_wp2
    have H0 := HH1.out
    have H := HH1.out
    have hn := HHN.out
    have h5 := HHD.out
    refine ⟨rfl, [v0, v1, v2, v3, v4, .tuple #[.agg #[.float .f32 q1, .float .f32 q2], .bool true], v6, .bool true, v8, v9, v10], ?_, v0, v1, v2, v3, v4, .tuple #[.agg #[.float .f32 q1, .float .f32 q2], .bool true], v6, .bool true, v8, v9, v10, X, rfl, ⟨H.bel, (by have h := H.f0; simpa [doneSet] using h), (by have h := H.f1; simpa [doneSet] using h), (by have h := H.f2; simpa [doneSet] using h), (by have h := H.f3; simpa [doneSet] using h), (by have h := H.f4; simpa [doneSet] using h), (fun _ => rfl), (by have h := H.f6; simpa [doneSet] using h), (fun _ => rfl), (by have h := H.f8; simpa [doneSet] using h), (by have h := H.f10; simpa [doneSet] using h), (by have h := H.k8; simpa [doneSet] using h), (by have h := H.x8; simpa [doneSet] using h), (by have h := H.k9; simpa [doneSet] using h), (by have h := H.g9_8; simpa [doneSet] using h)⟩⟩
    simp only [putAll, Act.put, List.setIfInBounds_toArray, List.set_cons_succ, List.set_cons_zero]
    all_goals rfl
  · rintro d vs W ⟨v0, v1, v2, v3, v4, v5, v6, v7, v8, v9, v10, X, rfl, H⟩ hn hd
    simp only [putAll, Act.put, List.setIfInBounds_toArray, List.set_cons_succ, List.set_cons_zero]
    have HH1 : Hid (Qp (W3.drew) (a) (b) (c) (dd) (m1) (m2) (q1) (q2) (p1) (p2) (u1) (u2) (n1) (n2) (o1) (o2) d W v0 v1 v2 v3 v4 v5 v6 v7 v8 v9 v10 X) := H
    clear H
    have HHN : Hid (d 8 = false) := hn
    clear hd hn
    go_wp2
    have H0 := HH1.out
    have H := HH1.out.below ((Below.refl _ W).alloc (Nat.le_refl _) (.cells #[.float .f32 0, .float .f32 0] 26))
    have hn := HHN.out
    refine ⟨rfl, [v0, v1, v2, v3, v4, v5, v6, v7, .pointer (some ⟨W.heap.size, 0, none⟩), v9, v10], ?_, v0, v1, v2, v3, v4, v5, v6, v7, .pointer (some ⟨W.heap.size, 0, none⟩), v9, v10, W.heap.size, rfl, ⟨H.bel, (by have h := H.f0; simpa [doneSet] using h), (by have h := H.f1; simpa [doneSet] using h), (by have h := H.f2; simpa [doneSet] using h), (by have h := H.f3; simpa [doneSet] using h), (by have h := H.f4; simpa [doneSet] using h), (by have h := H.f5; simpa [doneSet] using h), (by have h := H.f6; simpa [doneSet] using h), (by have h := H.f7; simpa [doneSet] using h), (fun _ => rfl), (by have h := H.f10; simpa [doneSet] using h), (fun _ _ => Blk.new _ _ _), (fun _ => H0.bel.size), (fun e => absurd (H0.g9_8 (by simpa [doneSet] using e)) (by rw [hn]; simp)), (fun _ => by simp [doneSet])⟩⟩
    simp only [putAll, Act.put, List.setIfInBounds_toArray, List.set_cons_succ, List.set_cons_zero]
    all_goals rfl
  · rintro d vs W ⟨v0, v1, v2, v3, v4, v5, v6, v7, v8, v9, v10, X, rfl, H⟩ hn hd
    simp only [putAll, Act.put, List.setIfInBounds_toArray, List.set_cons_succ, List.set_cons_zero]
    have h8 : d 8 = true := hd { on := 8, ground := .data } (by simp) rfl
    have h6 : d 6 = true := hd { on := 6, ground := .data } (by simp) rfl
    have K5 := H.k8 h8 hn
    have HK5 : Hid (Blk W X #[.float .f32 0, .float .f32 0] 26) := K5
    have HX5 : Hid (W3.drew.heap.size ≤ X) := H.x8 h8
    have z0 := K5.cell 0
    have z1 := K5.cell 1
    have f0 := K5.frozen 0
    have f1 := K5.frozen 1
    simp at z0 z1
    clear K5
    obtain rfl := H.f8 h8
    obtain rfl := H.f6 h6
    have HH1 : Hid (Qp (W3.drew) (a) (b) (c) (dd) (m1) (m2) (q1) (q2) (p1) (p2) (u1) (u2) (n1) (n2) (o1) (o2) d W v0 v1 v2 v3 v4 v5 (.agg #[.float .f32 q1, .float .f32 q2]) v7 (.pointer (some ⟨X, 0, none⟩)) v9 v10 X) := H
    clear H
    have HHN : Hid (d 9 = false) := hn
    have HHD : Hid (d 8 = true ∧ d 6 = true) := ⟨h8, h6⟩
    clear hd hn h8 h6
    go_wp2
    have H0 := HH1.out
    have H := HH1.out
    have hn := HHN.out
    have h8 := HHD.out.1
    have h6 := HHD.out.2
    refine ⟨rfl, [v0, v1, v2, v3, v4, v5, .agg #[.float .f32 q1, .float .f32 q2], v7, .pointer (some ⟨X, 0, none⟩), undef, v10], ?_, v0, v1, v2, v3, v4, v5, .agg #[.float .f32 q1, .float .f32 q2], v7, .pointer (some ⟨X, 0, none⟩), undef, v10, X, rfl, ⟨(below_set2 H0.bel _ HX5.out _ _), (by have h := H.f0; simpa [doneSet] using h), (by have h := H.f1; simpa [doneSet] using h), (by have h := H.f2; simpa [doneSet] using h), (by have h := H.f3; simpa [doneSet] using h), (by have h := H.f4; simpa [doneSet] using h), (by have h := H.f5; simpa [doneSet] using h), (fun _ => rfl), (by have h := H.f7; simpa [doneSet] using h), (fun _ => rfl), (by have h := H.f10; simpa [doneSet] using h), (fun _ e => absurd e (by simp [doneSet])), (by have h := H.x8; simpa [doneSet] using h), (fun _ => Blk.set2 HK5.out _ _), (fun _ => by simpa [doneSet] using h8)⟩⟩
    simp only [putAll, Act.put, List.setIfInBounds_toArray, List.set_cons_succ, List.set_cons_zero]
    all_goals rfl
  · rintro d vs W ⟨v0, v1, v2, v3, v4, v5, v6, v7, v8, v9, v10, X, rfl, H⟩ hn hd
    simp only [putAll, Act.put, List.setIfInBounds_toArray, List.set_cons_succ, List.set_cons_zero]
    have h7 : d 7 = true := hd { on := 7, ground := .data } (by simp) rfl
    obtain rfl := H.f7 h7
    have HH1 : Hid (Qp (W3.drew) (a) (b) (c) (dd) (m1) (m2) (q1) (q2) (p1) (p2) (u1) (u2) (n1) (n2) (o1) (o2) d W v0 v1 v2 v3 v4 v5 v6 (.bool true) v8 v9 v10 X) := H
    clear H
    have HHN : Hid (d 10 = false) := hn
    have HHD : Hid (d 7 = true) := h7
    clear hd hn h7
    go_wp2
    have H0 := HH1.out
    have H := HH1.out
    have hn := HHN.out
    have h7 := HHD.out
    refine ⟨rfl, [v0, v1, v2, v3, v4, v5, v6, .bool true, v8, v9, .bool true], ?_, v0, v1, v2, v3, v4, v5, v6, .bool true, v8, v9, .bool true, X, rfl, ⟨H.bel, (by have h := H.f0; simpa [doneSet] using h), (by have h := H.f1; simpa [doneSet] using h), (by have h := H.f2; simpa [doneSet] using h), (by have h := H.f3; simpa [doneSet] using h), (by have h := H.f4; simpa [doneSet] using h), (by have h := H.f5; simpa [doneSet] using h), (by have h := H.f6; simpa [doneSet] using h), (fun _ => rfl), (by have h := H.f8; simpa [doneSet] using h), (fun _ => rfl), (by have h := H.k8; simpa [doneSet] using h), (by have h := H.x8; simpa [doneSet] using h), (by have h := H.k9; simpa [doneSet] using h), (by have h := H.g9_8; simpa [doneSet] using h)⟩⟩
    simp only [putAll, Act.put, List.setIfInBounds_toArray, List.set_cons_succ, List.set_cons_zero]
    all_goals rfl
  rintro d' vs W ⟨v0, v1, v2, v3, v4, v5, v6, v7, v8, v9, v10, X, rfl, H⟩ hn
  obtain rfl := H.f0 (hn 0 (by decide))
  obtain rfl := H.f1 (hn 1 (by decide))
  obtain rfl := H.f2 (hn 2 (by decide))
  obtain rfl := H.f3 (hn 3 (by decide))
  obtain rfl := H.f4 (hn 4 (by decide))
  obtain rfl := H.f5 (hn 5 (by decide))
  obtain rfl := H.f6 (hn 6 (by decide))
  obtain rfl := H.f7 (hn 7 (by decide))
  obtain rfl := H.f8 (hn 8 (by decide))
  obtain rfl := H.f10 (hn 10 (by decide))
  have NB : Hid (Below W3.heap.size W3 W) := (Below.refl _ _).drew.trans H.bel
  have NK : Hid (Blk W X #[.float .f32 q1, .float .f32 q2] 26) := H.k9 (hn 9 (by decide))
  clear H hn
  simp only [putAll, Act.put, List.setIfInBounds_toArray, List.set_cons_succ, List.set_cons_zero]
  obtain ⟨W4, hW4⟩ : ∃ U, W = U := ⟨_, rfl⟩
  rw [hW4] at NB NK
  rw [hW4]
  clear hW4
  obtain ⟨X5, hX5⟩ : ∃ U, X = U := ⟨_, rfl⟩
  rw [hX5] at NK
  rw [hX5]
  clear hX5
  have HB4 : Hid (Below w.heap.size w W4) := belowCall HB3.out NB.out HB3.out.size
  have HL3 : Hid (Blk W4 w.heap.size #[.float .f32 a, .float .f32 b] 26) := HK3.out.below NB.out HK3.out.lt
  have HL4 : Hid (Blk W4 W2.heap.size #[.float .f32 c, .float .f32 dd] 26) := HK4.out.below NB.out HK4.out.lt
  have HL5 : Hid (Blk W4 X5 #[.float .f32 q1, .float .f32 q2] 26) := NK.out
  clear NB NK HB3 HK3 HK4 HK0 HB2
  go_wp2_with (fail)
  refine region_vals [undef, undef, undef, undef, undef, undef, undef, undef, undef, undef, undef, undef, undef, undef] (QsS (W4.drew) (a) (b) (c) (dd) (m1) (m2) (q1) (q2) (p1) (p2) (u1) (u2) (n1) (n2) (o1) (o2)) (by kernel_rfl) (by kernel_rfl) ?_ ⟨?_, ?_, ?_, ?_, ?_, ?_, ?_, ?_, ?_, ?_, ?_, ?_, ?_, ?_, trivial⟩ ?_
  · refine ⟨_, _, _, _, _, _, _, _, _, _, _, _, _, _, 0, rfl, ⟨(Below.refl _ _), ?_, ?_, ?_, ?_, ?_, ?_, ?_, ?_, ?_, ?_, ?_, ?_, ?_, ?_, ?_, ?_, ?_⟩⟩ <;> simp
  · rintro d vs W ⟨v0, v1, v2, v3, v4, v5, v6, v7, v8, v9, v10, v11, v12, v13, X, rfl, H⟩ hn hd
    simp only [putAll, Act.put, List.setIfInBounds_toArray, List.set_cons_succ, List.set_cons_zero]
    have KK := HL3.out.below ((Below.refl _ _).drew.trans H.bel) HL3.out.lt
    have z0 := KK.cell 0
    have z1 := KK.cell 1
    simp at z0 z1
    clear KK
    have HH1 : Hid (Qs (W4.drew) (a) (b) (c) (dd) (m1) (m2) (q1) (q2) (p1) (p2) (u1) (u2) (n1) (n2) (o1) (o2) d W v0 v1 v2 v3 v4 v5 v6 v7 v8 v9 v10 v11 v12 v13 X) := H
    clear H
    have HHN : Hid (d 0 = false) := hn
    clear hd hn
    go_wp2
    have H0 := HH1.out
    have H := HH1.out
    have hn := HHN.out
    refine ⟨rfl, [.agg #[.float .f32 a, .float .f32 b], v1, v2, v3, v4, v5, v6, v7, v8, v9, v10, v11, v12, v13], ?_, .agg #[.float .f32 a, .float .f32 b], v1, v2, v3, v4, v5, v6, v7, v8, v9, v10, v11, v12, v13, X, rfl, ⟨H.bel, (fun _ => rfl), (by have h := H.f1; simpa [doneSet] using h), (by have h := H.f2; simpa [doneSet] using h), (by have h := H.f3; simpa [doneSet] using h), (by have h := H.f4; simpa [doneSet] using h), (by have h := H.f5; simpa [doneSet] using h), (by have h := H.f6; simpa [doneSet] using h), (by have h := H.f7; simpa [doneSet] using h), (by have h := H.f8; simpa [doneSet] using h), (by have h := H.f9; simpa [doneSet] using h), (by have h := H.f10; simpa [doneSet] using h), (by have h := H.f11; simpa [doneSet] using h), (by have h := H.f13; simpa [doneSet] using h), (by have h := H.k11; simpa [doneSet] using h), (by have h := H.x11; simpa [doneSet] using h), (by have h := H.k12; simpa [doneSet] using h), (by have h := H.g12_11; simpa [doneSet] using h)⟩⟩
    simp only [putAll, Act.put, List.setIfInBounds_toArray, List.set_cons_succ, List.set_cons_zero]
    all_goals rfl
  · rintro d vs W ⟨v0, v1, v2, v3, v4, v5, v6, v7, v8, v9, v10, v11, v12, v13, X, rfl, H⟩ hn hd
    simp only [putAll, Act.put, List.setIfInBounds_toArray, List.set_cons_succ, List.set_cons_zero]
    have h0 : d 0 = true := hd { on := 0, ground := .data } (by simp) rfl
    obtain rfl := H.f0 h0
    have HH1 : Hid (Qs (W4.drew) (a) (b) (c) (dd) (m1) (m2) (q1) (q2) (p1) (p2) (u1) (u2) (n1) (n2) (o1) (o2) d W (.agg #[.float .f32 a, .float .f32 b]) v1 v2 v3 v4 v5 v6 v7 v8 v9 v10 v11 v12 v13 X) := H
    clear H
    have HHN : Hid (d 1 = false) := hn
    have HHD : Hid (d 0 = true) := h0
    clear hd hn h0
    go_wp2_with (fail)
    refine (HQ.out.c12a W).mono ?_
    rintro e W3 ⟨rfl, b7⟩
    have HB7 : Hid (Below W.heap.size W W3) := b7
    clear b7
    go_wp2
    have H0 := HH1.out
    have H := HH1.out.below HB7.out
    have hn := HHN.out
    have h0 := HHD.out
    refine ⟨rfl, [.agg #[.float .f32 a, .float .f32 b], .agg #[.float .f64 (wid a), .float .f64 (wid b)], v2, v3, v4, v5, v6, v7, v8, v9, v10, v11, v12, v13], ?_, .agg #[.float .f32 a, .float .f32 b], .agg #[.float .f64 (wid a), .float .f64 (wid b)], v2, v3, v4, v5, v6, v7, v8, v9, v10, v11, v12, v13, X, rfl, ⟨H.bel, (fun _ => rfl), (fun _ => rfl), (by have h := H.f2; simpa [doneSet] using h), (by have h := H.f3; simpa [doneSet] using h), (by have h := H.f4; simpa [doneSet] using h), (by have h := H.f5; simpa [doneSet] using h), (by have h := H.f6; simpa [doneSet] using h), (by have h := H.f7; simpa [doneSet] using h), (by have h := H.f8; simpa [doneSet] using h), (by have h := H.f9; simpa [doneSet] using h), (by have h := H.f10; simpa [doneSet] using h), (by have h := H.f11; simpa [doneSet] using h), (by have h := H.f13; simpa [doneSet] using h), (by have h := H.k11; simpa [doneSet] using h), (by have h := H.x11; simpa [doneSet] using h), (by have h := H.k12; simpa [doneSet] using h), (by have h := H.g12_11; simpa [doneSet] using h)⟩⟩
    simp only [putAll, Act.put, List.setIfInBounds_toArray, List.set_cons_succ, List.set_cons_zero]
    all_goals rfl
  · rintro d vs W ⟨v0, v1, v2, v3, v4, v5, v6, v7, v8, v9, v10, v11, v12, v13, X, rfl, H⟩ hn hd
    simp only [putAll, Act.put, List.setIfInBounds_toArray, List.set_cons_succ, List.set_cons_zero]
    have KK := HL4.out.below ((Below.refl _ _).drew.trans H.bel) HL4.out.lt
    have z0 := KK.cell 0
    have z1 := KK.cell 1
    simp at z0 z1
    clear KK
    have HH1 : Hid (Qs (W4.drew) (a) (b) (c) (dd) (m1) (m2) (q1) (q2) (p1) (p2) (u1) (u2) (n1) (n2) (o1) (o2) d W v0 v1 v2 v3 v4 v5 v6 v7 v8 v9 v10 v11 v12 v13 X) := H
    clear H
    have HHN : Hid (d 2 = false) := hn
    clear hd hn
    go_wp2
    have H0 := HH1.out
    have H := HH1.out
    have hn := HHN.out
    refine ⟨rfl, [v0, v1, .agg #[.float .f32 c, .float .f32 dd], v3, v4, v5, v6, v7, v8, v9, v10, v11, v12, v13], ?_, v0, v1, .agg #[.float .f32 c, .float .f32 dd], v3, v4, v5, v6, v7, v8, v9, v10, v11, v12, v13, X, rfl, ⟨H.bel, (by have h := H.f0; simpa [doneSet] using h), (by have h := H.f1; simpa [doneSet] using h), (fun _ => rfl), (by have h := H.f3; simpa [doneSet] using h), (by have h := H.f4; simpa [doneSet] using h), (by have h := H.f5; simpa [doneSet] using h), (by have h := H.f6; simpa [doneSet] using h), (by have h := H.f7; simpa [doneSet] using h), (by have h := H.f8; simpa [doneSet] using h), (by have h := H.f9; simpa [doneSet] using h), (by have h := H.f10; simpa [doneSet] using h), (by have h := H.f11; simpa [doneSet] using h), (by have h := H.f13; simpa [doneSet] using h), (by have h := H.k11; simpa [doneSet] using h), (by have h := H.x11; simpa [doneSet] using h), (by have h := H.k12; simpa [doneSet] using h), (by have h := H.g12_11; simpa [doneSet] using h)⟩⟩
    simp only [putAll, Act.put, List.setIfInBounds_toArray, List.set_cons_succ, List.set_cons_zero]
    all_goals rfl
  · rintro d vs W ⟨v0, v1, v2, v3, v4, v5, v6, v7, v8, v9, v10, v11, v12, v13, X, rfl, H⟩ hn hd
    simp only [putAll, Act.put, List.setIfInBounds_toArray, List.set_cons_succ, List.set_cons_zero]
    have h2 : d 2 = true := hd { on := 2, ground := .data } (by simp) rfl
    obtain rfl := H.f2 h2
    have HH1 : Hid (Qs (W4.drew) (a) (b) (c) (dd) (m1) (m2) (q1) (q2) (p1) (p2) (u1) (u2) (n1) (n2) (o1) (o2) d W v0 v1 (.agg #[.float .f32 c, .float .f32 dd]) v3 v4 v5 v6 v7 v8 v9 v10 v11 v12 v13 X) := H
    clear H
    have HHN : Hid (d 3 = false) := hn
    have HHD : Hid (d 2 = true) := h2
    clear hd hn h2
    go_wp2_with (fail)
    refine (HQ.out.c12b W).mono ?_
    rintro e W3 ⟨rfl, b7⟩
    have HB7 : Hid (Below W.heap.size W W3) := b7
    clear b7
    go_wp2
    have H0 := HH1.out
    have H := HH1.out.below HB7.out
    have hn := HHN.out
    have h2 := HHD.out
    refine ⟨rfl, [v0, v1, .agg #[.float .f32 c, .float .f32 dd], .agg #[.float .f64 (wid c), .float .f64 (wid dd)], v4, v5, v6, v7, v8, v9, v10, v11, v12, v13], ?_, v0, v1, .agg #[.float .f32 c, .float .f32 dd], .agg #[.float .f64 (wid c), .float .f64 (wid dd)], v4, v5, v6, v7, v8, v9, v10, v11, v12, v13, X, rfl, ⟨H.bel, (by have h := H.f0; simpa [doneSet] using h), (by have h := H.f1; simpa [doneSet] using h), (fun _ => rfl), (fun _ => rfl), (by have h := H.f4; simpa [doneSet] using h), (by have h := H.f5; simpa [doneSet] using h), (by have h := H.f6; simpa [doneSet] using h), (by have h := H.f7; simpa [doneSet] using h), (by have h := H.f8; simpa [doneSet] using h), (by have h := H.f9; simpa [doneSet] using h), (by have h := H.f10; simpa [doneSet] using h), (by have h := H.f11; simpa [doneSet] using h), (by have h := H.f13; simpa [doneSet] using h), (by have h := H.k11; simpa [doneSet] using h), (by have h := H.x11; simpa [doneSet] using h), (by have h := H.k12; simpa [doneSet] using h), (by have h := H.g12_11; simpa [doneSet] using h)⟩⟩
    simp only [putAll, Act.put, List.setIfInBounds_toArray, List.set_cons_succ, List.set_cons_zero]
    all_goals rfl
  · rintro d vs W ⟨v0, v1, v2, v3, v4, v5, v6, v7, v8, v9, v10, v11, v12, v13, X, rfl, H⟩ hn hd
    simp only [putAll, Act.put, List.setIfInBounds_toArray, List.set_cons_succ, List.set_cons_zero]
    have h1 : d 1 = true := hd { on := 1, ground := .data } (by simp) rfl
    have h3 : d 3 = true := hd { on := 3, ground := .data } (by simp) rfl
    obtain rfl := H.f1 h1
    obtain rfl := H.f3 h3
    have HH1 : Hid (Qs (W4.drew) (a) (b) (c) (dd) (m1) (m2) (q1) (q2) (p1) (p2) (u1) (u2) (n1) (n2) (o1) (o2) d W v0 (.agg #[.float .f64 (wid a), .float .f64 (wid b)]) v2 (.agg #[.float .f64 (wid c), .float .f64 (wid dd)]) v4 v5 v6 v7 v8 v9 v10 v11 v12 v13 X) := H
    clear H
    have HHN : Hid (d 4 = false) := hn
    have HHD : Hid (d 1 = true ∧ d 3 = true) := ⟨h1, h3⟩
    clear hd hn h1 h3
    go_wp2_with (fail)
    refine (HQ.out.c11 W).mono ?_
    rintro e W3 ⟨rfl, b7⟩
    have HB7 : Hid (Below W.heap.size W W3) := b7
    clear b7
    go_wp2
    have H0 := HH1.out
    have H := HH1.out.below HB7.out
    have hn := HHN.out
    have h1 := HHD.out.1
    have h3 := HHD.out.2
    refine ⟨rfl, [v0, .agg #[.float .f64 (wid a), .float .f64 (wid b)], v2, .agg #[.float .f64 (wid c), .float .f64 (wid dd)], .agg #[.float .f64 p1, .float .f64 p2], v5, v6, v7, v8, v9, v10, v11, v12, v13], ?_, v0, .agg #[.float .f64 (wid a), .float .f64 (wid b)], v2, .agg #[.float .f64 (wid c), .float .f64 (wid dd)], .agg #[.float .f64 p1, .float .f64 p2], v5, v6, v7, v8, v9, v10, v11, v12, v13, X, rfl, ⟨H.bel, (by have h := H.f0; simpa [doneSet] using h), (fun _ => rfl), (by have h := H.f2; simpa [doneSet] using h), (fun _ => rfl), (fun _ => rfl), (by have h := H.f5; simpa [doneSet] using h), (by have h := H.f6; simpa [doneSet] using h), (by have h := H.f7; simpa [doneSet] using h), (by have h := H.f8; simpa [doneSet] using h), (by have h := H.f9; simpa [doneSet] using h), (by have h := H.f10; simpa [doneSet] using h), (by have h := H.f11; simpa [doneSet] using h), (by have h := H.f13; simpa [doneSet] using h), (by have h := H.k11; simpa [doneSet] using h), (by have h := H.x11; simpa [doneSet] using h), (by have h := H.k12; simpa [doneSet] using h), (by have h := H.g12_11; simpa [doneSet] using h)⟩⟩
    simp only [putAll, Act.put, List.setIfInBounds_toArray, List.set_cons_succ, List.set_cons_zero]
    all_goals rfl
  · rintro d vs W ⟨v0, v1, v2, v3, v4, v5, v6, v7, v8, v9, v10, v11, v12, v13, X, rfl, H⟩ hn hd
    simp only [putAll, Act.put, List.setIfInBounds_toArray, List.set_cons_succ, List.set_cons_zero]
    have KK := HL4.out.below ((Below.refl _ _).drew.trans H.bel) HL4.out.lt
    have z0 := KK.cell 0
    have z1 := KK.cell 1
    simp at z0 z1
    clear KK
    have HH1 : Hid (Qs (W4.drew) (a) (b) (c) (dd) (m1) (m2) (q1) (q2) (p1) (p2) (u1) (u2) (n1) (n2) (o1) (o2) d W v0 v1 v2 v3 v4 v5 v6 v7 v8 v9 v10 v11 v12 v13 X) := H
    clear H
    have HHN : Hid (d 5 = false) := hn
    clear hd hn
    go_wp2
    have H0 := HH1.out
    have H := HH1.out
    have hn := HHN.out
    refine ⟨rfl, [v0, v1, v2, v3, v4, .agg #[.float .f32 c, .float .f32 dd], v6, v7, v8, v9, v10, v11, v12, v13], ?_, v0, v1, v2, v3, v4, .agg #[.float .f32 c, .float .f32 dd], v6, v7, v8, v9, v10, v11, v12, v13, X, rfl, ⟨H.bel, (by have h := H.f0; simpa [doneSet] using h), (by have h := H.f1; simpa [doneSet] using h), (by have h := H.f2; simpa [doneSet] using h), (by have h := H.f3; simpa [doneSet] using h), (by have h := H.f4; simpa [doneSet] using h), (fun _ => rfl), (by have h := H.f6; simpa [doneSet] using h), (by have h := H.f7; simpa [doneSet] using h), (by have h := H.f8; simpa [doneSet] using h), (by have h := H.f9; simpa [doneSet] using h), (by have h := H.f10; simpa [doneSet] using h), (by have h := H.f11; simpa [doneSet] using h), (by have h := H.f13; simpa [doneSet] using h), (by have h := H.k11; simpa [doneSet] using h), (by have h := H.x11; simpa [doneSet] using h), (by have h := H.k12; simpa [doneSet] using h), (by have h := H.g12_11; simpa [doneSet] using h)⟩⟩
    simp only [putAll, Act.put, List.setIfInBounds_toArray, List.set_cons_succ, List.set_cons_zero]
    all_goals rfl
  · rintro d vs W ⟨v0, v1, v2, v3, v4, v5, v6, v7, v8, v9, v10, v11, v12, v13, X, rfl, H⟩ hn hd
    simp only [putAll, Act.put, List.setIfInBounds_toArray, List.set_cons_succ, List.set_cons_zero]
    have h5 : d 5 = true := hd { on := 5, ground := .data } (by simp) rfl
    obtain rfl := H.f5 h5
    have HH1 : Hid (Qs (W4.drew) (a) (b) (c) (dd) (m1) (m2) (q1) (q2) (p1) (p2) (u1) (u2) (n1) (n2) (o1) (o2) d W v0 v1 v2 v3 v4 (.agg #[.float .f32 c, .float .f32 dd]) v6 v7 v8 v9 v10 v11 v12 v13 X) := H
    clear H
    have HHN : Hid (d 6 = false) := hn
    have HHD : Hid (d 5 = true) := h5
    clear hd hn h5
    go_wp2_with (fail)
    refine (HQ.out.c12b W).mono ?_
    rintro e W3 ⟨rfl, b7⟩
    have HB7 : Hid (Below W.heap.size W W3) := b7
    clear b7
    go_wp2
    have H0 := HH1.out
    have H := HH1.out.below HB7.out
    have hn := HHN.out
    have h5 := HHD.out
    refine ⟨rfl, [v0, v1, v2, v3, v4, .agg #[.float .f32 c, .float .f32 dd], .agg #[.float .f64 (wid c), .float .f64 (wid dd)], v7, v8, v9, v10, v11, v12, v13], ?_, v0, v1, v2, v3, v4, .agg #[.float .f32 c, .float .f32 dd], .agg #[.float .f64 (wid c), .float .f64 (wid dd)], v7, v8, v9, v10, v11, v12, v13, X, rfl, ⟨H.bel, (by have h := H.f0; simpa [doneSet] using h), (by have h := H.f1; simpa [doneSet] using h), (by have h := H.f2; simpa [doneSet] using h), (by have h := H.f3; simpa [doneSet] using h), (by have h := H.f4; simpa [doneSet] using h), (fun _ => rfl), (fun _ => rfl), (by have h := H.f7; simpa [doneSet] using h), (by have h := H.f8; simpa [doneSet] using h), (by have h := H.f9; simpa [doneSet] using h), (by have h := H.f10; simpa [doneSet] using h), (by have h := H.f11; simpa [doneSet] using h), (by have h := H.f13; simpa [doneSet] using h), (by have h := H.k11; simpa [doneSet] using h), (by have h := H.x11; simpa [doneSet] using h), (by have h := H.k12; simpa [doneSet] using h), (by have h := H.g12_11; simpa [doneSet] using h)⟩⟩
    simp only [putAll, Act.put, List.setIfInBounds_toArray, List.set_cons_succ, List.set_cons_zero]
    all_goals rfl
  · rintro d vs W ⟨v0, v1, v2, v3, v4, v5, v6, v7, v8, v9, v10, v11, v12, v13, X, rfl, H⟩ hn hd
    simp only [putAll, Act.put, List.setIfInBounds_toArray, List.set_cons_succ, List.set_cons_zero]
    have h4 : d 4 = true := hd { on := 4, ground := .data } (by simp) rfl
    have h6 : d 6 = true := hd { on := 6, ground := .data } (by simp) rfl
    obtain rfl := H.f4 h4
    obtain rfl := H.f6 h6
    have HH1 : Hid (Qs (W4.drew) (a) (b) (c) (dd) (m1) (m2) (q1) (q2) (p1) (p2) (u1) (u2) (n1) (n2) (o1) (o2) d W v0 v1 v2 v3 (.agg #[.float .f64 p1, .float .f64 p2]) v5 (.agg #[.float .f64 (wid c), .float .f64 (wid dd)]) v7 v8 v9 v10 v11 v12 v13 X) := H
    clear H
    have HHN : Hid (d 7 = false) := hn
    have HHD : Hid (d 4 = true ∧ d 6 = true) := ⟨h4, h6⟩
    clear hd hn h4 h6
    go_wp2_with (fail)
    refine (HQ.out.c19 W).mono ?_
    rintro e W3 ⟨rfl, b7⟩
    have HB7 : Hid (Below W.heap.size W W3) := b7
    clear b7
    go_wp2
    have H0 := HH1.out
    have H := HH1.out.below HB7.out
    have hn := HHN.out
    have h4 := HHD.out.1
    have h6 := HHD.out.2
    refine ⟨rfl, [v0, v1, v2, v3, .agg #[.float .f64 p1, .float .f64 p2], v5, .agg #[.float .f64 (wid c), .float .f64 (wid dd)], .tuple #[.agg #[.float .f64 u1, .float .f64 u2], .bool true], v8, v9, v10, v11, v12, v13], ?_, v0, v1, v2, v3, .agg #[.float .f64 p1, .float .f64 p2], v5, .agg #[.float .f64 (wid c), .float .f64 (wid dd)], .tuple #[.agg #[.float .f64 u1, .float .f64 u2], .bool true], v8, v9, v10, v11, v12, v13, X, rfl, ⟨H.bel, (by have h := H.f0; simpa [doneSet] using h), (by have h := H.f1; simpa [doneSet] using h), (by have h := H.f2; simpa [doneSet] using h), (by have h := H.f3; simpa [doneSet] using h), (fun _ => rfl), (by have h := H.f5; simpa [doneSet] using h), (fun _ => rfl), (fun _ => rfl), (by have h := H.f8; simpa [doneSet] using h), (by have h := H.f9; simpa [doneSet] using h), (by have h := H.f10; simpa [doneSet] using h), (by have h := H.f11; simpa [doneSet] using h), (by have h := H.f13; simpa [doneSet] using h), (by have h := H.k11; simpa [doneSet] using h), (by have h := H.x11; simpa [doneSet] using h), (by have h := H.k12; simpa [doneSet] using h), (by have h := H.g12_11; simpa [doneSet] using h)⟩⟩
    simp only [putAll, Act.put, List.setIfInBounds_toArray, List.set_cons_succ, List.set_cons_zero]
    all_goals rfl
  · rintro d vs W ⟨v0, v1, v2, v3, v4, v5, v6, v7, v8, v9, v10, v11, v12, v13, X, rfl, H⟩ hn hd
    simp only [putAll, Act.put, List.setIfInBounds_toArray, List.set_cons_succ, List.set_cons_zero]
    have h7 : d 7 = true := hd { on := 7, ground := .data } (by simp) rfl
    obtain rfl := H.f7 h7
    have HH1 : Hid (Qs (W4.drew) (a) (b) (c) (dd) (m1) (m2) (q1) (q2) (p1) (p2) (u1) (u2) (n1) (n2) (o1) (o2) d W v0 v1 v2 v3 v4 v5 v6 (.tuple #[.agg #[.float .f64 u1, .float .f64 u2], .bool true]) v8 v9 v10 v11 v12 v13 X) := H
    clear H
    have HHN : Hid (d 8 = false) := hn
    have HHD : Hid (d 7 = true) := h7
    clear hd hn h7
    go_wp2
    have H0 := HH1.out
    have H := HH1.out
    have hn := HHN.out
    have h7 := HHD.out
    refine ⟨rfl, [v0, v1, v2, v3, v4, v5, v6, .tuple #[.agg #[.float .f64 u1, .float .f64 u2], .bool true], .tuple #[.agg #[.float .f64 u1, .float .f64 u2], .bool true], v9, v10, v11, v12, v13], ?_, v0, v1, v2, v3, v4, v5, v6, .tuple #[.agg #[.float .f64 u1, .float .f64 u2], .bool true], .tuple #[.agg #[.float .f64 u1, .float .f64 u2], .bool true], v9, v10, v11, v12, v13, X, rfl, ⟨H.bel, (by have h := H.f0; simpa [doneSet] using h), (by have h := H.f1; simpa [doneSet] using h), (by have h := H.f2; simpa [doneSet] using h), (by have h := H.f3; simpa [doneSet] using h), (by have h := H.f4; simpa [doneSet] using h), (by have h := H.f5; simpa [doneSet] using h), (by have h := H.f6; simpa [doneSet] using h), (fun _ => rfl), (fun _ => rfl), (by have h := H.f9; simpa [doneSet] using h), (by have h := H.f10; simpa [doneSet] using h), (by have h := H.f11; simpa [doneSet] using h), (by have h := H.f13; simpa [doneSet] using h), (by have h := H.k11; simpa [doneSet] using h), (by have h := H.x11; simpa [doneSet] using h), (by have h := H.k12; simpa [doneSet] using h), (by have h := H.g12_11; simpa [doneSet] using h)⟩⟩
    simp only [putAll, Act.put, List.setIfInBounds_toArray, List.set_cons_succ, List.set_cons_zero]
    all_goals rfl
  · rintro d vs W ⟨v0, v1, v2, v3, v4, v5, v6, v7, v8, v9, v10, v11, v12, v13, X, rfl, H⟩ hn hd
    simp only [putAll, Act.put, List.setIfInBounds_toArray, List.set_cons_succ, List.set_cons_zero]
    have h8 : d 8 = true := hd { on := 8, ground := .data } (by simp) rfl
    obtain rfl := H.f8 h8
    have HH1 : Hid (Qs (W4.drew) (a) (b) (c) (dd) (m1) (m2) (q1) (q2) (p1) (p2) (u1) (u2) (n1) (n2) (o1) (o2) d W v0 v1 v2 v3 v4 v5 v6 v7 (.tuple #[.agg #[.float .f64 u1, .float .f64 u2], .bool true]) v9 v10 v11 v12 v13 X) := H
    clear H
    have HHN : Hid (d 9 = false) := hn
    have HHD : Hid (d 8 = true) := h8
    clear hd hn h8
    go_wp2
    have H0 := HH1.out
    have H := HH1.out
    have hn := HHN.out
    have h8 := HHD.out
    refine ⟨rfl, [v0, v1, v2, v3, v4, v5, v6, v7, .tuple #[.agg #[.float .f64 u1, .float .f64 u2], .bool true], .agg #[.float .f64 u1, .float .f64 u2], v10, v11, v12, v13], ?_, v0, v1, v2, v3, v4, v5, v6, v7, .tuple #[.agg #[.float .f64 u1, .float .f64 u2], .bool true], .agg #[.float .f64 u1, .float .f64 u2], v10, v11, v12, v13, X, rfl, ⟨H.bel, (by have h := H.f0; simpa [doneSet] using h), (by have h := H.f1; simpa [doneSet] using h), (by have h := H.f2; simpa [doneSet] using h), (by have h := H.f3; simpa [doneSet] using h), (by have h := H.f4; simpa [doneSet] using h), (by have h := H.f5; simpa [doneSet] using h), (by have h := H.f6; simpa [doneSet] using h), (by have h := H.f7; simpa [doneSet] using h), (fun _ => rfl), (fun _ => rfl), (by have h := H.f10; simpa [doneSet] using h), (by have h := H.f11; simpa [doneSet] using h), (by have h := H.f13; simpa [doneSet] using h), (by have h := H.k11; simpa [doneSet] using h), (by have h := H.x11; simpa [doneSet] using h), (by have h := H.k12; simpa [doneSet] using h), (by have h := H.g12_11; simpa [doneSet] using h)⟩⟩
    simp only [putAll, Act.put, List.setIfInBounds_toArray, List.set_cons_succ, List.set_cons_zero]
    all_goals rfl
  · rintro d vs W ⟨v0, v1, v2, v3, v4, v5, v6, v7, v8, v9, v10, v11, v12, v13, X, rfl, H⟩ hn hd
    simp only [putAll, Act.put, List.setIfInBounds_toArray, List.set_cons_succ, List.set_cons_zero]
    have h8 : d 8 = true := hd { on := 8, ground := .data } (by simp) rfl
    obtain rfl := H.f8 h8
    have HH1 : Hid (Qs (W4.drew) (a) (b) (c) (dd) (m1) (m2) (q1) (q2) (p1) (p2) (u1) (u2) (n1) (n2) (o1) (o2) d W v0 v1 v2 v3 v4 v5 v6 v7 (.tuple #[.agg #[.float .f64 u1, .float .f64 u2], .bool true]) v9 v10 v11 v12 v13 X) := H
    clear H
    have HHN : Hid (d 10 = false) := hn
    have HHD : Hid (d 8 = true) := h8
    clear hd hn h8
    go_wp2
    have H0 := HH1.out
    have H := HH1.out
    have hn := HHN.out
    have h8 := HHD.out
    refine ⟨rfl, [v0, v1, v2, v3, v4, v5, v6, v7, .tuple #[.agg #[.float .f64 u1, .float .f64 u2], .bool true], v9, .bool true, v11, v12, v13], ?_, v0, v1, v2, v3, v4, v5, v6, v7, .tuple #[.agg #[.float .f64 u1, .float .f64 u2], .bool true], v9, .bool true, v11, v12, v13, X, rfl, ⟨H.bel, (by have h := H.f0; simpa [doneSet] using h), (by have h := H.f1; simpa [doneSet] using h), (by have h := H.f2; simpa [doneSet] using h), (by have h := H.f3; simpa [doneSet] using h), (by have h := H.f4; simpa [doneSet] using h), (by have h := H.f5; simpa [doneSet] using h), (by have h := H.f6; simpa [doneSet] using h), (by have h := H.f7; simpa [doneSet] using h), (fun _ => rfl), (by have h := H.f9; simpa [doneSet] using h), (fun _ => rfl), (by have h := H.f11; simpa [doneSet] using h), (by have h := H.f13; simpa [doneSet] using h), (by have h := H.k11; simpa [doneSet] using h), (by have h := H.x11; simpa [doneSet] using h), (by have h := H.k12; simpa [doneSet] using h), (by have h := H.g12_11; simpa [doneSet] using h)⟩⟩
    simp only [putAll, Act.put, List.setIfInBounds_toArray, List.set_cons_succ, List.set_cons_zero]
    all_goals rfl
  · rintro d vs W ⟨v0, v1, v2, v3, v4, v5, v6, v7, v8, v9, v10, v11, v12, v13, X, rfl, H⟩ hn hd
    simp only [putAll, Act.put, List.setIfInBounds_toArray, List.set_cons_succ, List.set_cons_zero]
    have HH1 : Hid (Qs (W4.drew) (a) (b) (c) (dd) (m1) (m2) (q1) (q2) (p1) (p2) (u1) (u2) (n1) (n2) (o1) (o2) d W v0 v1 v2 v3 v4 v5 v6 v7 v8 v9 v10 v11 v12 v13 X) := H
    clear H
    have HHN : Hid (d 11 = false) := hn
    clear hd hn
    go_wp2
    have H0 := HH1.out
    have H := HH1.out.below ((Below.refl _ W).alloc (Nat.le_refl _) (.cells #[.float .f64 0, .float .f64 0] 34))
    have hn := HHN.out
    refine ⟨rfl, [v0, v1, v2, v3, v4, v5, v6, v7, v8, v9, v10, .pointer (some ⟨W.heap.size, 0, none⟩), v12, v13], ?_, v0, v1, v2, v3, v4, v5, v6, v7, v8, v9, v10, .pointer (some ⟨W.heap.size, 0, none⟩), v12, v13, W.heap.size, rfl, ⟨H.bel, (by have h := H.f0; simpa [doneSet] using h), (by have h := H.f1; simpa [doneSet] using h), (by have h := H.f2; simpa [doneSet] using h), (by have h := H.f3; simpa [doneSet] using h), (by have h := H.f4; simpa [doneSet] using h), (by have h := H.f5; simpa [doneSet] using h), (by have h := H.f6; simpa [doneSet] using h), (by have h := H.f7; simpa [doneSet] using h), (by have h := H.f8; simpa [doneSet] using h), (by have h := H.f9; simpa [doneSet] using h), (by have h := H.f10; simpa [doneSet] using h), (fun _ => rfl), (by have h := H.f13; simpa [doneSet] using h), (fun _ _ => Blk.new _ _ _), (fun _ => H0.bel.size), (fun e => absurd (H0.g12_11 (by simpa [doneSet] using e)) (by rw [hn]; simp)), (fun _ => by simp [doneSet])⟩⟩
    simp only [putAll, Act.put, List.setIfInBounds_toArray, List.set_cons_succ, List.set_cons_zero]
    all_goals rfl
  · rintro d vs W ⟨v0, v1, v2, v3, v4, v5, v6, v7, v8, v9, v10, v11, v12, v13, X, rfl, H⟩ hn hd
    simp only [putAll, Act.put, List.setIfInBounds_toArray, List.set_cons_succ, List.set_cons_zero]
    have h11 : d 11 = true := hd { on := 11, ground := .data } (by simp) rfl
    have h9 : d 9 = true := hd { on := 9, ground := .data } (by simp) rfl
    have K5 := H.k11 h11 hn
    have HK5 : Hid (Blk W X #[.float .f64 0, .float .f64 0] 34) := K5
    have HX5 : Hid (W4.drew.heap.size ≤ X) := H.x11 h11
    have z0 := K5.cell 0
    have z1 := K5.cell 1
    have f0 := K5.frozen 0
    have f1 := K5.frozen 1
    simp at z0 z1
    clear K5
    obtain rfl := H.f11 h11
    obtain rfl := H.f9 h9
    have HH1 : Hid (Qs (W4.drew) (a) (b) (c) (dd) (m1) (m2) (q1) (q2) (p1) (p2) (u1) (u2) (n1) (n2) (o1) (o2) d W v0 v1 v2 v3 v4 v5 v6 v7 v8 (.agg #[.float .f64 u1, .float .f64 u2]) v10 (.pointer (some ⟨X, 0, none⟩)) v12 v13 X) := H
    clear H
    have HHN : Hid (d 12 = false) := hn
    have HHD : Hid (d 11 = true ∧ d 9 = true) := ⟨h11, h9⟩
    clear hd hn h11 h9
    go_wp2
    have H0 := HH1.out
    have H := HH1.out
    have hn := HHN.out
    have h11 := HHD.out.1
    have h9 := HHD.out.2
    refine ⟨rfl, [v0, v1, v2, v3, v4, v5, v6, v7, v8, .agg #[.float .f64 u1, .float .f64 u2], v10, .pointer (some ⟨X, 0, none⟩), undef, v13], ?_, v0, v1, v2, v3, v4, v5, v6, v7, v8, .agg #[.float .f64 u1, .float .f64 u2], v10, .pointer (some ⟨X, 0, none⟩), undef, v13, X, rfl, ⟨(below_set2 H0.bel _ HX5.out _ _), (by have h := H.f0; simpa [doneSet] using h), (by have h := H.f1; simpa [doneSet] using h), (by have h := H.f2; simpa [doneSet] using h), (by have h := H.f3; simpa [doneSet] using h), (by have h := H.f4; simpa [doneSet] using h), (by have h := H.f5; simpa [doneSet] using h), (by have h := H.f6; simpa [doneSet] using h), (by have h := H.f7; simpa [doneSet] using h), (by have h := H.f8; simpa [doneSet] using h), (fun _ => rfl), (by have h := H.f10; simpa [doneSet] using h), (fun _ => rfl), (by have h := H.f13; simpa [doneSet] using h), (fun _ e => absurd e (by simp [doneSet])), (by have h := H.x11; simpa [doneSet] using h), (fun _ => Blk.set2 HK5.out _ _), (fun _ => by simpa [doneSet] using h11)⟩⟩
    simp only [putAll, Act.put, List.setIfInBounds_toArray, List.set_cons_succ, List.set_cons_zero]
    all_goals rfl
  · rintro d vs W ⟨v0, v1, v2, v3, v4, v5, v6, v7, v8, v9, v10, v11, v12, v13, X, rfl, H⟩ hn hd
    simp only [putAll, Act.put, List.setIfInBounds_toArray, List.set_cons_succ, List.set_cons_zero]
    have h10 : d 10 = true := hd { on := 10, ground := .data } (by simp) rfl
    obtain rfl := H.f10 h10
    have HH1 : Hid (Qs (W4.drew) (a) (b) (c) (dd) (m1) (m2) (q1) (q2) (p1) (p2) (u1) (u2) (n1) (n2) (o1) (o2) d W v0 v1 v2 v3 v4 v5 v6 v7 v8 v9 (.bool true) v11 v12 v13 X) := H
    clear H
    have HHN : Hid (d 13 = false) := hn
    have HHD : Hid (d 10 = true) := h10
    clear hd hn h10
    go_wp2
    have H0 := HH1.out
    have H := HH1.out
    have hn := HHN.out
    have h10 := HHD.out
    refine ⟨rfl, [v0, v1, v2, v3, v4, v5, v6, v7, v8, v9, .bool true, v11, v12, .bool true], ?_, v0, v1, v2, v3, v4, v5, v6, v7, v8, v9, .bool true, v11, v12, .bool true, X, rfl, ⟨H.bel, (by have h := H.f0; simpa [doneSet] using h), (by have h := H.f1; simpa [doneSet] using h), (by have h := H.f2; simpa [doneSet] using h), (by have h := H.f3; simpa [doneSet] using h), (by have h := H.f4; simpa [doneSet] using h), (by have h := H.f5; simpa [doneSet] using h), (by have h := H.f6; simpa [doneSet] using h), (by have h := H.f7; simpa [doneSet] using h), (by have h := H.f8; simpa [doneSet] using h), (by have h := H.f9; simpa [doneSet] using h), (fun _ => rfl), (by have h := H.f11; simpa [doneSet] using h), (fun _ => rfl), (by have h := H.k11; simpa [doneSet] using h), (by have h := H.x11; simpa [doneSet] using h), (by have h := H.k12; simpa [doneSet] using h), (by have h := H.g12_11; simpa [doneSet] using h)⟩⟩
    simp only [putAll, Act.put, List.setIfInBounds_toArray, List.set_cons_succ, List.set_cons_zero]
    all_goals rfl
  rintro d' vs W ⟨v0, v1, v2, v3, v4, v5, v6, v7, v8, v9, v10, v11, v12, v13, X, rfl, H⟩ hn
  obtain rfl := H.f0 (hn 0 (by decide))
  obtain rfl := H.f1 (hn 1 (by decide))
  obtain rfl := H.f2 (hn 2 (by decide))
  obtain rfl := H.f3 (hn 3 (by decide))
  obtain rfl := H.f4 (hn 4 (by decide))
  obtain rfl := H.f5 (hn 5 (by decide))
  obtain rfl := H.f6 (hn 6 (by decide))
  obtain rfl := H.f7 (hn 7 (by decide))
  obtain rfl := H.f8 (hn 8 (by decide))
  obtain rfl := H.f9 (hn 9 (by decide))
  obtain rfl := H.f10 (hn 10 (by decide))
  obtain rfl := H.f11 (hn 11 (by decide))
  obtain rfl := H.f13 (hn 13 (by decide))
  have NB : Hid (Below W4.heap.size W4 W) := (Below.refl _ _).drew.trans H.bel
  have NK : Hid (Blk W X #[.float .f64 u1, .float .f64 u2] 34) := H.k12 (hn 12 (by decide))
  clear H hn
  simp only [putAll, Act.put, List.setIfInBounds_toArray, List.set_cons_succ, List.set_cons_zero]
  obtain ⟨W5, hW5⟩ : ∃ U, W = U := ⟨_, rfl⟩
  rw [hW5] at NB NK
  rw [hW5]
  clear hW5
  obtain ⟨X6, hX6⟩ : ∃ U, X = U := ⟨_, rfl⟩
  rw [hX6] at NK
  rw [hX6]
  clear hX6
  have HB5 : Hid (Below w.heap.size w W5) := belowCall HB4.out NB.out HB4.out.size
  have HM3 : Hid (Blk W5 w.heap.size #[.float .f32 a, .float .f32 b] 26) := HL3.out.below NB.out HL3.out.lt
  have HM5 : Hid (Blk W5 X5 #[.float .f32 q1, .float .f32 q2] 26) := HL5.out.below NB.out HL5.out.lt
  have HM6 : Hid (Blk W5 X6 #[.float .f64 u1, .float .f64 u2] 34) := NK.out
  clear NB NK HB4 HL3 HL4 HL5
  have k0 := HM3.out.cell 0
  have k1 := HM3.out.cell 1
  simp at k0 k1
  go_wp2_with (fail)
  refine (HQ.out.c18z W5).mono ?_
  rintro e w6 ⟨rfl, b6⟩
  have HB6 : Hid (Below w.heap.size w w6) := belowCall HB5.out b6 HB5.out.size
  have HN3 : Hid (Blk w6 w.heap.size #[.float .f32 a, .float .f32 b] 26) := HM3.out.below b6 HM3.out.lt
  have HN5 : Hid (Blk w6 X5 #[.float .f32 q1, .float .f32 q2] 26) := HM5.out.below b6 HM5.out.lt
  have HN6 : Hid (Blk w6 X6 #[.float .f64 u1, .float .f64 u2] 34) := HM6.out.below b6 HM6.out.lt
  clear b6 k0 k1 HB5 HM3 HM5 HM6
  obtain ⟨V0, hV0⟩ : ∃ W, w6.alloc (Obj.cells #[.float .f32 o1, .float .f32 o2] 26) = W := ⟨_, rfl⟩
  have HV0 : Hid (w6.alloc (Obj.cells #[.float .f32 o1, .float .f32 o2] 26) = V0) := hV0
  have HB7 : Hid (Below w.heap.size w V0) := by rw [← hV0]; exact HB6.out.alloc HB6.out.size _
  have HO3 : Hid (Blk V0 w.heap.size #[.float .f32 a, .float .f32 b] 26) := by rw [← hV0]; exact HN3.out.alloc _
  have HO5 : Hid (Blk V0 X5 #[.float .f32 q1, .float .f32 q2] 26) := by rw [← hV0]; exact HN5.out.alloc _
  have HO6 : Hid (Blk V0 X6 #[.float .f64 u1, .float .f64 u2] 34) := by rw [← hV0]; exact HN6.out.alloc _
  clear hV0 HN3 HN5 HN6 HB6
  go_wp2_with (fail)
  rw [HV0.out]
  clear HV0
  have y0 : ∀ W : Ov V0, W.wd.cell? ⟨w.heap.size, 0, none⟩ = some (.float .f32 a) := fun W => (W.ok.cell HO3.out.lt).trans (HO3.out.cell 0)
  have y1 : ∀ W : Ov V0, W.wd.cell? ⟨w.heap.size, 1, none⟩ = some (.float .f32 b) := fun W => (W.ok.cell HO3.out.lt).trans (HO3.out.cell 1)
  have y2 : ∀ W : Ov V0, W.wd.cell? ⟨X5, 0, none⟩ = some (.float .f32 q1) := fun W => (W.ok.cell HO5.out.lt).trans (HO5.out.cell 0)
  have y3 : ∀ W : Ov V0, W.wd.cell? ⟨X5, 1, none⟩ = some (.float .f32 q2) := fun W => (W.ok.cell HO5.out.lt).trans (HO5.out.cell 1)
  have y4 : ∀ W : Ov V0, W.wd.cell? ⟨X6, 0, none⟩ = some (.float .f64 u1) := fun W => (W.ok.cell HO6.out.lt).trans (HO6.out.cell 0)
  have y5 : ∀ W : Ov V0, W.wd.cell? ⟨X6, 1, none⟩ = some (.float .f64 u2) := fun W => (W.ok.cell HO6.out.lt).trans (HO6.out.cell 1)
  have ne1 : Nonempty (Ov V0) := ⟨⟨_, Below.refl _ _⟩⟩
  have C1 : Hid (∀ W : Ov V0, Calls Try.prog 15 #[.agg #[.float .f32 q1, .float .f32 q2], .agg #[.float .f32 a, .float .f32 b]] W.wd fun e w'' => e = .returned (.bool true) ∧ ∃ W' : Ov V0, w'' = W'.wd) := fun W => ov_call (HQ.out.c15 W.wd)
  have C2 : Hid (∀ W : Ov V0, Calls Try.prog 10 #[.agg #[.float .f64 u1, .float .f64 u2]] W.wd fun e w'' => e = .returned (.agg #[.float .f32 n1, .float .f32 n2]) ∧ ∃ W' : Ov V0, w'' = W'.wd) := fun W => ov_call (HQ.out.c10 W.wd)
  have C3 : Hid (∀ W : Ov V0, Calls Try.prog 8 #[.agg #[.float .f32 n1, .float .f32 n2], .agg #[.float .f32 a, .float .f32 b]] W.wd fun e w'' => e = .returned (.bool true) ∧ ∃ W' : Ov V0, w'' = W'.wd) := fun W => ov_call (HQ.out.c8 W.wd)
  refine region_over (by kernel_rfl) (by kernel_rfl) ?_
  repeat (go_big_quiet_step (first | (go_at_call 15; exact C1.out _) | (go_at_call 10; exact C2.out _) | (go_at_call 8; exact C3.out _)))
  refine wpQuiet_nil ?_
  rintro _ ⟨W, rfl⟩
  have HB8 : Hid (Below w.heap.size w W.wd) := HB7.out.trans (W.ok.mono HB7.out.size)
  clear y0 y1 y2 y3 y4 y5 ne1 C1 C2 C3
  go_wp2
  go_ret
  exact ⟨rfl, HB8.out⟩
theorem quotientsLawW (v : Value) (zs : List Int) (w : World) (h : Rd .u8 w v zs) (hwf : ∀ z ∈ zs, (Lit.int .u8 z).wf = true) : Calls Try.prog 4 #[v] w fun e w' => e = .returned (.bool true) ∧ Below w.heap.size w w' := quotientsLaw v zs w h (fun z hz => bounds_u8 (hwf z hz))

end Go.Proofs.Ytmhpfbcdikldcaa
