/- The model's TrunkOk; no condition. -/
import Derived.Test.YtkehcalijamhjaaTkI
namespace Go.Proofs.Ytkehcalijamhjaa
open Go.RowKit Go.ChangeShapes Go.WideShapes Go.ChangeAt
set_option linter.unusedVariables false
set_option linter.unusedSimpArgs false
set_option maxRecDepth 8000

set_option maxHeartbeats 6400000 in
theorem okM_c (c0 c1 w0 w1 : Value) (l0 l1 : Int) (z0 z1 : List Int) (n0 n1 : Mvs) (w : World) (h : Rk w c0 c1 w0 w1 z0 z1 n0 n1) :
    Calls Try.prog 20 #[.agg (T6 c0 c1 l0 l1 w0 w1)] w (TkR z0 z1 l0 l1 n0 n1 w) := by
  obtain ⟨W0, hW0⟩ : ∃ W0, w.alloc (Obj.cells (T6 c0 c1 l0 l1 w0 w1) 33) = W0 := ⟨_, rfl⟩
  have hb0 : Below w.heap.size w W0 := by rw [← hW0]; exact (Below.refl _ _).alloc (Nat.le_refl _) _
  have HB : Hid (Below w.heap.size w W0) := hb0
  have K0 : Hid (Blk W0 w.heap.size (T6 c0 c1 l0 l1 w0 w1) 33) := by rw [← hW0]; exact Blk.new _ _ _
  have h' := h.below hb0
  obtain ⟨a0, p0, hv0, s0, t0, d0⟩ := h'.r0
  obtain ⟨a1, p1, hv1, s1, t1, d1⟩ := h'.r1
  obtain ⟨a2, p2, hv2, s2, t2, d2⟩ := h'.r2
  obtain ⟨a3, p3, hv3, s3, t3, d3⟩ := h'.r3
  obtain ⟨m0, hm0⟩ : ∃ m, z0.length = m := ⟨_, rfl⟩
  obtain ⟨m1, hm1⟩ : ∃ m, z1.length = m := ⟨_, rfl⟩
  obtain ⟨k0, hk0⟩ : ∃ m, n0.length = m := ⟨_, rfl⟩
  obtain ⟨k1, hk1⟩ : ∃ m, n1.length = m := ⟨_, rfl⟩
  have HM : Hid (z0.length = m0 ∧ z1.length = m1 ∧ n0.length = k0 ∧ n1.length = k1) := ⟨hm0, hm1, hk0, hk1⟩
  have D0 : Hid (z0 = [] ∨ ∃ b off, a0 = some ⟨b, off, none⟩ ∧ ∀ i, i < z0.length → W0.cell? ⟨b, off + i, none⟩ = some (.int .i64 (z0.getD i 0))) := d0
  have D1 : Hid (z1 = [] ∨ ∃ b off, a1 = some ⟨b, off, none⟩ ∧ ∀ i, i < z1.length → W0.cell? ⟨b, off + i, none⟩ = some (.int .i64 (z1.getD i 0))) := d1
  have D2 : Hid (n0 = [] ∨ ∃ b off, a2 = some ⟨b, off, none⟩ ∧ ∀ i (h : i < n0.length), W0.cell? ⟨b, off + i * 2, none⟩ = some (mf n0[i]) ∧ W0.cell? ⟨b, off + i * 2 + 1, none⟩ = some (mg n0[i])) := d2
  have D3 : Hid (n1 = [] ∨ ∃ b off, a3 = some ⟨b, off, none⟩ ∧ ∀ i (h : i < n1.length), W0.cell? ⟨b, off + i * 2, none⟩ = some (mf n1[i]) ∧ W0.cell? ⟨b, off + i * 2 + 1, none⟩ = some (mg n1[i])) := d3
  rw [hm0] at hv0 s0
  rw [hm1] at hv1 s1
  rw [hk0] at hv2 s2
  rw [hk1] at hv3 s3
  subst hv0 hv1 hv2 hv3
  unfold maxLen at t0 t1 t2 t3
  have x0 := K0.out.cell 0
  have x1 := K0.out.cell 1
  have x2 := K0.out.cell 2
  have x3 := K0.out.cell 3
  have x4 := K0.out.cell 4
  have x5 := K0.out.cell 5
  have xl := K0.out.lt
  simp at x0 x1 x2 x3 x4 x5
  clear h h' hb0 hm0 hm1 hk0 hk1 d0 d1 d2 d3
  go_enter Try.func20, Try.ntmps20
  go_wp2_with (fail)
  clear hW0
  refine (in_c (m0 : Int) 1 24 W0).mono ?_
  rintro e wq ⟨rfl, hwq⟩
  rw [hwq]
  clear hwq wq
  by_cases hc : 1 ≤ (m0 : Int) ∧ (m0 : Int) ≤ 24
  case neg =>
    rw [decide_eq_false hc]
    go_wp2
    go_ret
    exact TkR.no (fun t => hc (by have := t.1; have := HM.out.1; omega)) HB.out
  rw [decide_eq_true hc]
  by_cases he : m1 = m0
  case neg =>
    have hne : ((m1 : Int) != (m0 : Int)) = true := by simp; omega
    go_wp2
    go_ret
    exact TkR.no (fun t => he (by have := t.2.1; have := HM.out; omega)) HB.out
  subst he
  have hne : ((m1 : Int) != (m1 : Int)) = false := by simp
  go_wp2
  refine wp_loop_rounds 3 ?_
  rw [rounds_succ]
  go_wp2
  go_loopw [5] (fun i wr => ∃ j : Nat, j ≤ m1 ∧ i = .int .i64 j ∧ wr = W0 ∧ Hid (∀ k, k < j → 0 ≤ z0.getD k 0 ∧ z0.getD k 0 ≤ 4)) (fun i _ => m1 - (intOf i).toNat)
  case atStart => exact ⟨0, Nat.zero_le _, rfl, rfl, fun k hk => absurd hk (by omega)⟩
  case round =>
    obtain ⟨j, hj, rfl, hwr, hall⟩ := hrel
    have hwr' := hwr.symm
    clear hwr
    subst hwr'
    by_cases hlt : j < m1
    · have hjl : j < z0.length := by have := HM.out.1; omega
      rcases D0.out with h3 | ⟨b, off, rfl, h4⟩
      · subst h3; simp at hjl
      have hcell := h4 j hjl
      obtain ⟨x, hx⟩ : ∃ x, z0.getD j 0 = x := ⟨_, rfl⟩
      rw [hx] at hcell
      have HX : Hid (z0.getD j 0 = x) := hx
      have HJL : Hid (j < z0.length) := hjl
      have hi : (j : Int) < (m1 : Int) := by omega
      clear h4 hx hjl
      go_wp2_with (fail)
      refine (in_c x 0 4 _).mono ?_
      rintro e wq ⟨rfl, hwq⟩
      rw [hwq]
      clear hwq wq
      by_cases g : 0 ≤ x ∧ x ≤ 4
      · rw [decide_eq_true g]
        go_wp2
        go_roundw
        case rel => exact ⟨j + 1, by omega, by go_num, trivial, fun k hk => by
          by_cases e : k = j
          · rw [e, HX.out]; exact g
          · exact hall.out k (by omega)⟩
        case measure => simp [intOf]; omega
      · rw [decide_eq_false g]
        go_wp2
        go_ret
        exact TkR.no (fun t => g (by have := t.2.2.1.1 j HJL.out; rw [HX.out] at this; exact this)) HB.out
    · obtain rfl : m1 = j := by omega
      have hjf : ((m1 : Int) < (m1 : Int)) = False := eq_false (by omega)
      have G0 : Hid (SeOk z0) := fun k hk => hall.out k (by have := HM.out.1; omega)
      clear hall
      go_wp2
      go_loopw [6] (fun i wr => ∃ i0 : Nat, i0 ≤ k0 ∧ i = .int .i64 i0 ∧ wr = W0 ∧ Hid (∀ k (h : k < n0.length), k < i0 → NtOk m1 n0[k])) (fun i _ => k0 - (intOf i).toNat)
      case atStart => exact ⟨0, Nat.zero_le _, rfl, rfl, fun k h hk => absurd hk (by omega)⟩
      case round =>
        obtain ⟨i, hi, rfl, hwr, hall⟩ := hrel
        have hwr' := hwr.symm
        clear hwr
        subst hwr'
        by_cases hlt2 : i < k0
        · have hil : i < n0.length := by have := HM.out.2.2.1; omega
          rcases D2.out with h3 | ⟨b, off, rfl, h4⟩
          · subst h3; simp at hil
          have hcell := h4 i hil
          obtain ⟨x, y, hxy⟩ : ∃ x y, n0[i] = (x, y) := ⟨_, _, rfl⟩
          rw [hxy] at hcell
          have q0 : W0.cell? ⟨b, off + i * 2, none⟩ = some (.int .i64 x) := hcell.1
          have q1 : W0.cell? ⟨b, off + i * 2 + 1, none⟩ = some (.int .i64 y) := hcell.2
          clear hcell
          have HX : Hid (n0[i] = (x, y)) := hxy
          have hi2 : (i : Int) < (k0 : Int) := by omega
          have hj1 : 0 < (m1 : Int) := by omega
          clear h4 hxy
          go_wp2_with (fail)
          refine (in_c x 1 5 _).mono ?_
          rintro e wq ⟨rfl, hwq⟩
          rw [hwq]
          clear hwq wq
          by_cases g : 1 ≤ x ∧ x ≤ 5
          case neg =>
            rw [decide_eq_false g]
            go_wp2
            go_ret
            exact TkR.no (fun t => g (by have := (t.2.2.1.2.2.2 i hil).1; rw [HX.out] at this; exact this)) HB.out
          rw [decide_eq_true g]
          go_wp2_with (fail)
          refine (in_c y 0 ((m1 : Int) - 1) _).mono ?_
          rintro e wq ⟨rfl, hwq⟩
          rw [hwq]
          clear hwq wq
          by_cases g2 : 0 ≤ y ∧ y ≤ (m1 : Int) - 1
          case neg =>
            rw [decide_eq_false g2]
            go_wp2
            go_ret
            exact TkR.no (fun t => g2 (by have := (t.2.2.1.2.2.2 i hil).2; rw [HX.out, HM.out.1] at this; simp only at this; omega)) HB.out
          rw [decide_eq_true g2]
          go_wp2
          go_roundw
          case rel => exact ⟨i + 1, by omega, by go_num, trivial, fun k h hk => by
            by_cases e : k = i
            · subst e; rw [HX.out]; exact ⟨g, by simp only; omega⟩
            · exact hall.out k h (by omega)⟩
          case measure => simp [intOf]; omega
        · obtain rfl : k0 = i := by omega
          have hif : ((k0 : Int) < (k0 : Int)) = False := eq_false (by omega)
          have N0 : Hid (∀ k (h : k < n0.length), NtOk m1 n0[k]) := fun k h => hall.out k h (by have := HM.out.2.2.1; omega)
          clear hall
          by_cases h60 : 60 < k0
          · have h60' : (60 : Int) < (k0 : Int) := by omega
            go_wp2
            go_ret
            exact TkR.no (fun t => by have := t.2.2.1.2.2.1; have := HM.out.2.2.1; omega) HB.out
          have h60' : ((60 : Int) < (k0 : Int)) = False := eq_false (by omega)
          go_wp2_with (fail)
          refine (in_c l0 0 1000000 _).mono ?_
          rintro e wq ⟨rfl, hwq⟩
          rw [hwq]
          clear hwq wq
          by_cases gl : 0 ≤ l0 ∧ l0 ≤ 1000000
          case neg =>
            rw [decide_eq_false gl]
            go_wp2
            go_ret
            exact TkR.no (fun t => gl t.2.2.1.2.1) HB.out
          rw [decide_eq_true gl]
          have L0 : Hid (LoOk l0 ∧ n0.length ≤ 60) := ⟨gl, by have := HM.out.2.2.1; omega⟩
          clear gl
          go_wp2
          rw [rounds_succ]
          go_wp2
          go_loopw [5] (fun i wr => ∃ j : Nat, j ≤ m1 ∧ i = .int .i64 j ∧ wr = W0 ∧ Hid (∀ k, k < j → 0 ≤ z1.getD k 0 ∧ z1.getD k 0 ≤ 4)) (fun i _ => m1 - (intOf i).toNat)
          case atStart => exact ⟨0, Nat.zero_le _, rfl, rfl, fun k hk => absurd hk (by omega)⟩
          case round =>
            obtain ⟨j, hj, rfl, hwr, hall⟩ := hrel
            have hwr' := hwr.symm
            clear hwr
            subst hwr'
            by_cases hlt : j < m1
            · have hjl : j < z1.length := by have := HM.out.2.1; omega
              rcases D1.out with h3 | ⟨b, off, rfl, h4⟩
              · subst h3; simp at hjl
              have hcell := h4 j hjl
              obtain ⟨x, hx⟩ : ∃ x, z1.getD j 0 = x := ⟨_, rfl⟩
              rw [hx] at hcell
              have HX : Hid (z1.getD j 0 = x) := hx
              have HJL : Hid (j < z1.length) := hjl
              have hi : (j : Int) < (m1 : Int) := by omega
              clear h4 hx hjl
              go_wp2_with (fail)
              refine (in_c x 0 4 _).mono ?_
              rintro e wq ⟨rfl, hwq⟩
              rw [hwq]
              clear hwq wq
              by_cases g : 0 ≤ x ∧ x ≤ 4
              · rw [decide_eq_true g]
                go_wp2
                go_roundw
                case rel => exact ⟨j + 1, by omega, by go_num, trivial, fun k hk => by
                  by_cases e : k = j
                  · rw [e, HX.out]; exact g
                  · exact hall.out k (by omega)⟩
                case measure => simp [intOf]; omega
              · rw [decide_eq_false g]
                go_wp2
                go_ret
                exact TkR.no (fun t => g (by have := t.2.2.2.1 j HJL.out; rw [HX.out] at this; exact this)) HB.out
            · obtain rfl : m1 = j := by omega
              have hjf : ((m1 : Int) < (m1 : Int)) = False := eq_false (by omega)
              have G1 : Hid (SeOk z1) := fun k hk => hall.out k (by have := HM.out.2.1; omega)
              clear hall
              go_wp2
              go_loopw [6] (fun i wr => ∃ i0 : Nat, i0 ≤ k1 ∧ i = .int .i64 i0 ∧ wr = W0 ∧ Hid (∀ k (h : k < n1.length), k < i0 → NtOk m1 n1[k])) (fun i _ => k1 - (intOf i).toNat)
              case atStart => exact ⟨0, Nat.zero_le _, rfl, rfl, fun k h hk => absurd hk (by omega)⟩
              case round =>
                obtain ⟨i, hi, rfl, hwr, hall⟩ := hrel
                have hwr' := hwr.symm
                clear hwr
                subst hwr'
                by_cases hlt2 : i < k1
                · have hil : i < n1.length := by have := HM.out.2.2.2; omega
                  rcases D3.out with h3 | ⟨b, off, rfl, h4⟩
                  · subst h3; simp at hil
                  have hcell := h4 i hil
                  obtain ⟨x, y, hxy⟩ : ∃ x y, n1[i] = (x, y) := ⟨_, _, rfl⟩
                  rw [hxy] at hcell
                  have q0 : W0.cell? ⟨b, off + i * 2, none⟩ = some (.int .i64 x) := hcell.1
                  have q1 : W0.cell? ⟨b, off + i * 2 + 1, none⟩ = some (.int .i64 y) := hcell.2
                  clear hcell
                  have HX : Hid (n1[i] = (x, y)) := hxy
                  have hi2 : (i : Int) < (k1 : Int) := by omega
                  have hj1 : 0 < (m1 : Int) := by omega
                  clear h4 hxy
                  go_wp2_with (fail)
                  refine (in_c x 1 5 _).mono ?_
                  rintro e wq ⟨rfl, hwq⟩
                  rw [hwq]
                  clear hwq wq
                  by_cases g : 1 ≤ x ∧ x ≤ 5
                  case neg =>
                    rw [decide_eq_false g]
                    go_wp2
                    go_ret
                    exact TkR.no (fun t => g (by have := (t.2.2.2.2.2.2 i hil).1; rw [HX.out] at this; exact this)) HB.out
                  rw [decide_eq_true g]
                  go_wp2_with (fail)
                  refine (in_c y 0 ((m1 : Int) - 1) _).mono ?_
                  rintro e wq ⟨rfl, hwq⟩
                  rw [hwq]
                  clear hwq wq
                  by_cases g2 : 0 ≤ y ∧ y ≤ (m1 : Int) - 1
                  case neg =>
                    rw [decide_eq_false g2]
                    go_wp2
                    go_ret
                    exact TkR.no (fun t => g2 (by have := (t.2.2.2.2.2.2 i hil).2; rw [HX.out, HM.out.1] at this; simp only at this; omega)) HB.out
                  rw [decide_eq_true g2]
                  go_wp2
                  go_roundw
                  case rel => exact ⟨i + 1, by omega, by go_num, trivial, fun k h hk => by
                    by_cases e : k = i
                    · subst e; rw [HX.out]; exact ⟨g, by simp only; omega⟩
                    · exact hall.out k h (by omega)⟩
                  case measure => simp [intOf]; omega
                · obtain rfl : k1 = i := by omega
                  have hif : ((k1 : Int) < (k1 : Int)) = False := eq_false (by omega)
                  have N1 : Hid (∀ k (h : k < n1.length), NtOk m1 n1[k]) := fun k h => hall.out k h (by have := HM.out.2.2.2; omega)
                  clear hall
                  by_cases h60 : 60 < k1
                  · have h60' : (60 : Int) < (k1 : Int) := by omega
                    go_wp2
                    go_ret
                    exact TkR.no (fun t => by have := t.2.2.2.2.2.1; have := HM.out.2.2.2; omega) HB.out
                  have h60' : ((60 : Int) < (k1 : Int)) = False := eq_false (by omega)
                  go_wp2_with (fail)
                  refine (in_c l1 0 1000000 _).mono ?_
                  rintro e wq ⟨rfl, hwq⟩
                  rw [hwq]
                  clear hwq wq
                  by_cases gl : 0 ≤ l1 ∧ l1 ≤ 1000000
                  case neg =>
                    rw [decide_eq_false gl]
                    go_wp2
                    go_ret
                    exact TkR.no (fun t => gl t.2.2.2.2.1) HB.out
                  rw [decide_eq_true gl]
                  have L1 : Hid (LoOk l1 ∧ n1.length ≤ 60) := ⟨gl, by have := HM.out.2.2.2; omega⟩
                  clear gl
                  go_wp2
                  rw [rounds_succ]
                  go_wp2
                  go_ret
                  refine TkR.yes ?_ HB.out
                  have hm := HM.out
                  refine ⟨by omega, by omega, ⟨G0.out, L0.out.1, L0.out.2, by rw [hm.1]; exact N0.out⟩, ⟨G1.out, L1.out.1, L1.out.2, by rw [hm.1]; exact N1.out⟩⟩
end Go.Proofs.Ytkehcalijamhjaa
