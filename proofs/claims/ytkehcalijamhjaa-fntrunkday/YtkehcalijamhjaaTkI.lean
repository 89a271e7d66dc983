/- What a trunk is; the program's TrunkOk; no condition. -/
import Derived.Test.YtkehcalijamhjaaTrC
namespace Go.Proofs.Ytkehcalijamhjaa
open Go.RowKit Go.ChangeShapes Go.WideShapes Go.ChangeAt
set_option linter.unusedVariables false
set_option linter.unusedSimpArgs false
set_option maxRecDepth 8000

def SeOk (z : List Int) : Prop := ∀ k, k < z.length → 0 ≤ z.getD k 0 ∧ z.getD k 0 ≤ 4
def NtOk (n : Nat) (x : Int × Int) : Prop := (1 ≤ x.1 ∧ x.1 ≤ 5) ∧ (0 ≤ x.2 ∧ x.2 < (n : Int))
def NoOk (n : Nat) (ns : Mvs) : Prop := ns.length ≤ 60 ∧ ∀ k (h : k < ns.length), NtOk n ns[k]
def LoOk (l : Int) : Prop := 0 ≤ l ∧ l ≤ 1000000
/-- what a trunk is -/
def TOk (z0 z1 : List Int) (l0 l1 : Int) (n0 n1 : Mvs) : Prop := (1 ≤ z0.length ∧ z0.length ≤ 24) ∧ z1.length = z0.length ∧ (SeOk z0 ∧ LoOk l0 ∧ NoOk z0.length n0) ∧ (SeOk z1 ∧ LoOk l1 ∧ NoOk z0.length n1)
def TkR (z0 z1 : List Int) (l0 l1 : Int) (n0 n1 : Mvs) (w : World) (e : Ending) (w' : World) : Prop := ∃ r, e = .returned (.bool r) ∧ (r = true ↔ TOk z0 z1 l0 l1 n0 n1) ∧ Below w.heap.size w w'
theorem TkR.no {z0 z1 : List Int} {l0 l1 : Int} {n0 n1 : Mvs} {w w' : World} (h : ¬ TOk z0 z1 l0 l1 n0 n1) (b : Below w.heap.size w w') : TkR z0 z1 l0 l1 n0 n1 w (.returned (.bool false)) w' := ⟨_, rfl, ⟨fun h => (by cases h), fun h' => absurd h' h⟩, b⟩
theorem TkR.yes {z0 z1 : List Int} {l0 l1 : Int} {n0 n1 : Mvs} {w w' : World} (h : TOk z0 z1 l0 l1 n0 n1) (b : Below w.heap.size w w') : TkR z0 z1 l0 l1 n0 n1 w (.returned (.bool true)) w' := ⟨_, rfl, ⟨fun _ => h, fun _ => rfl⟩, b⟩
theorem idx28_0 (a b : Value) (w : World) : (Instr.index 28 (.agg #[a, b]) (.int .i64 0)).run Try.prog w = .ok a w := by kernel_rfl
theorem idx28_1 (a b : Value) (w : World) : (Instr.index 28 (.agg #[a, b]) (.int .i64 1)).run Try.prog w = .ok b w := by kernel_rfl
def BoR (P : Prop) (w : World) (e : Ending) (w' : World) : Prop := ∃ r, e = .returned (.bool r) ∧ (r = true ↔ P) ∧ Below w.heap.size w w'
def BoS (P : Prop) (w : World) (e : Ending) (w' : World) : Prop := ∃ r, e = .returned (.bool r) ∧ (r = true ↔ P) ∧ w' = w
theorem seen_c (v : Value) (z : List Int) (w : World) (h : Rd .i64 w v z) : Calls Try.prog 57 #[v] w (BoS (SeOk z) w) := by
  obtain ⟨a, cap, rfl, h1, h2, h3⟩ := h
  unfold maxLen at h2
  go_enter Try.func57, Try.ntmps57
  go_wp2
  go_loopw [7] (fun i wr => ∃ j : Nat, j ≤ z.length ∧ i = .int .i64 j ∧ wr = w ∧ Hid (∀ k, k < j → 0 ≤ z.getD k 0 ∧ z.getD k 0 ≤ 4)) (fun i _ => z.length - (intOf i).toNat)
  case atStart => exact ⟨0, Nat.zero_le _, rfl, rfl, fun k hk => absurd hk (by omega)⟩
  case round =>
    obtain ⟨j, hj, rfl, rfl, hall⟩ := hrel
    by_cases hlt : j < z.length
    · rcases h3 with h3 | ⟨b, off, rfl, h4⟩
      · subst h3; simp at hlt
      have hc := h4 j hlt
      obtain ⟨x, hx⟩ : ∃ x, z.getD j 0 = x := ⟨_, rfl⟩
      rw [hx] at hc
      have HX : Hid (z.getD j 0 = x) := hx
      have hi : (j : Int) < (z.length : Int) := by omega
      clear h4 hx
      by_cases g0 : x < 0
      · go_wp2
        go_ret
        exact ⟨_, rfl, ⟨fun h => (by cases h), fun h' => by have := h' j hlt; rw [HX.out] at this; omega⟩, rfl⟩
      by_cases g1 : 4 < x
      · go_wp2
        go_ret
        exact ⟨_, rfl, ⟨fun h => (by cases h), fun h' => by have := h' j hlt; rw [HX.out] at this; omega⟩, rfl⟩
      go_wp2
      go_roundw
      case rel => exact ⟨j + 1, by omega, by go_num, trivial, fun k hk => by
        by_cases e : k = j
        · rw [e, HX.out]; omega
        · exact hall.out k (by omega)⟩
      case measure => simp [intOf]; omega
    · obtain rfl : j = z.length := by omega
      clear h3
      go_wp2
      go_ret
      exact ⟨_, rfl, ⟨fun _ => hall.out, fun _ => rfl⟩, rfl⟩
theorem circ_c (c n : Int) (w : World) : Calls Try.prog 47 #[.int .i64 c, .int .i64 n] w fun e w' => e = .returned (.bool (decide (0 ≤ c ∧ c < n))) ∧ w' = w := by
  by_cases h0 : 0 ≤ c <;> by_cases h1 : c < n
  all_goals
    go_enter Try.func47, Try.ntmps47
    go_wp2
    go_ret
    exact ⟨by simp [h0, h1], rfl⟩
theorem circs_c (n : Int) (w : World) : Calls Try.prog 36 #[.int .i64 n] w fun e w' => e = .returned (.bool (decide (1 ≤ n ∧ n ≤ 24))) ∧ w' = w := by
  by_cases h0 : 1 ≤ n <;> by_cases h1 : n ≤ 24
  all_goals
    go_enter Try.func36, Try.ntmps36
    go_wp2
    go_ret
    exact ⟨by simp [h0, h1], rfl⟩
theorem in_c (x a b : Int) (w : World) : Calls Try.prog 44 #[.int .i64 x, .int .i64 a, .int .i64 b] w fun e w' => e = .returned (.bool (decide (a ≤ x ∧ x ≤ b))) ∧ w' = w := by
  by_cases h0 : a ≤ x <;> by_cases h1 : x ≤ b
  all_goals
    go_enter Try.func44, Try.ntmps44
    go_wp2
    go_ret
    exact ⟨by simp [h0, h1], rfl⟩
set_option maxHeartbeats 1600000 in
theorem notes_c (v : Value) (ns : Mvs) (n : Nat) (w : World) (h : Rp mf mg w v ns) : Calls Try.prog 58 #[v, .int .i64 n] w (BoR (NoOk n ns) w) := by
  obtain ⟨a, cap, rfl, h1, h2, h3⟩ := h
  unfold maxLen at h2
  by_cases hbig : 60 < ns.length
  · have hb : (60 : Int) < (ns.length : Int) := by omega
    clear h3
    go_enter Try.func58, Try.ntmps58
    go_wp2
    go_ret
    exact ⟨_, rfl, ⟨fun h => (by cases h), fun h' => by have := h'.1; omega⟩, Below.refl _ _⟩
  have hb : ((60 : Int) < (ns.length : Int)) = False := eq_false (by omega)
  go_enter Try.func58, Try.ntmps58
  go_wp2
  go_loopw [12] (fun i wr => ∃ j : Nat, j ≤ ns.length ∧ i = .int .i64 j ∧ Hid (Below w.heap.size w wr) ∧ Hid (∀ k (h : k < ns.length), k < j → NtOk n ns[k])) (fun i _ => ns.length - (intOf i).toNat)
  case atStart => exact ⟨0, Nat.zero_le _, rfl, Below.refl _ _, fun k h hk => absurd hk (by omega)⟩
  case round =>
    obtain ⟨j, hj, rfl, hbl, hall⟩ := hrel
    by_cases hlt : j < ns.length
    · rcases h3 with h3 | ⟨b, off, rfl, h4⟩
      · subst h3; simp at hlt
      have hc := h4 j hlt
      obtain ⟨x, y, hxy⟩ : ∃ x y, ns[j] = (x, y) := ⟨_, _, rfl⟩
      rw [hxy] at hc
      have hc0 : wr.cell? ⟨b, off + j * 2, none⟩ = some (.int .i64 x) := (hbl.out.cell (block_lt_of_cell hc.1)).trans hc.1
      have hc1 : wr.cell? ⟨b, off + j * 2 + 1, none⟩ = some (.int .i64 y) := (hbl.out.cell (block_lt_of_cell hc.2)).trans hc.2
      have HX : Hid (ns[j] = (x, y)) := hxy
      have HNB : Hid (Below w.heap.size w (wr.alloc (Obj.cells (H2 x y) 68))) := hbl.out.trans (((Below.refl _ _).alloc (Nat.le_refl _) _).mono hbl.out.size)
      have hi : (j : Int) < (ns.length : Int) := by omega
      clear h4 hc hxy
      by_cases g0 : x < 1
      · go_wp2
        go_ret
        exact ⟨_, rfl, ⟨fun h => (by cases h), fun h' => by have := (h'.2 j hlt).1; rw [HX.out] at this; dsimp only at this; omega⟩, HNB.out⟩
      by_cases g1 : 5 < x
      · go_wp2
        go_ret
        exact ⟨_, rfl, ⟨fun h => (by cases h), fun h' => by have := (h'.2 j hlt).1; rw [HX.out] at this; dsimp only at this; omega⟩, HNB.out⟩
      go_wp2_with (fail)
      refine (circ_c y n _).mono ?_
      rintro e wq ⟨rfl, hwq⟩
      rw [hwq]
      clear hwq wq
      by_cases g2 : 0 ≤ y ∧ y < (n : Int)
      · rw [decide_eq_true g2]
        go_wp2
        go_roundw
        case rel => exact ⟨j + 1, by omega, by go_num, HNB.out, fun k h hk => by
          by_cases e : k = j
          · subst e; rw [HX.out]; exact ⟨⟨by omega, by omega⟩, g2⟩
          · exact hall.out k h (by omega)⟩
        case measure => simp [intOf]; omega
      · rw [decide_eq_false g2]
        go_wp2
        go_ret
        exact ⟨_, rfl, ⟨fun h => (by cases h), fun h' => by have := (h'.2 j hlt).2; rw [HX.out] at this; exact absurd this g2⟩, HNB.out⟩
    · obtain rfl : j = ns.length := by omega
      clear h3
      go_wp2
      go_ret
      exact ⟨_, rfl, ⟨fun _ => ⟨by omega, fun k h => hall.out k h h⟩, fun _ => rfl⟩, hbl.out⟩
set_option maxHeartbeats 3200000 in
theorem okI_c (c0 c1 w0 w1 : Value) (l0 l1 : Int) (z0 z1 : List Int) (n0 n1 : Mvs) (w : World) (h : Rk w c0 c1 w0 w1 z0 z1 n0 n1) :
    Calls Try.prog 26 #[.agg (T6 c0 c1 l0 l1 w0 w1)] w (TkR z0 z1 l0 l1 n0 n1 w) := by
  obtain ⟨W0, hW0⟩ : ∃ W0, w.alloc (Obj.cells (T6 c0 c1 l0 l1 w0 w1) 33) = W0 := ⟨_, rfl⟩
  have HB : Hid (Below w.heap.size w W0) := by rw [← hW0]; exact (Below.refl _ _).alloc (Nat.le_refl _) _
  have K0 : Hid (Blk W0 w.heap.size (T6 c0 c1 l0 l1 w0 w1) 33) := by rw [← hW0]; exact Blk.new _ _ _
  have HR : Hid (Rk w c0 c1 w0 w1 z0 z1 n0 n1) := h
  obtain ⟨a0, p0, hv0, -⟩ := h.r0
  obtain ⟨a1, p1, hv1, -⟩ := h.r1
  obtain ⟨a2, p2, hv2, -⟩ := h.r2
  obtain ⟨a3, p3, hv3, -⟩ := h.r3
  obtain ⟨m0, hm0⟩ : ∃ m, z0.length = m := ⟨_, rfl⟩
  obtain ⟨m1, hm1⟩ : ∃ m, z1.length = m := ⟨_, rfl⟩
  obtain ⟨k0, hk0⟩ : ∃ m, n0.length = m := ⟨_, rfl⟩
  obtain ⟨k1, hk1⟩ : ∃ m, n1.length = m := ⟨_, rfl⟩
  have HM : Hid (z0.length = m0 ∧ z1.length = m1 ∧ n0.length = k0 ∧ n1.length = k1) := ⟨hm0, hm1, hk0, hk1⟩
  rw [hm0] at hv0
  rw [hm1] at hv1
  rw [hk0] at hv2
  rw [hk1] at hv3
  subst hv0 hv1 hv2 hv3
  have x0 := K0.out.cell 0
  have x1 := K0.out.cell 1
  have x2 := K0.out.cell 2
  have x3 := K0.out.cell 3
  have x4 := K0.out.cell 4
  have x5 := K0.out.cell 5
  have xl := K0.out.lt
  simp at x0 x1 x2 x3 x4 x5
  clear h hm0 hm1 hk0 hk1
  go_enter Try.func26, Try.ntmps26
  go_wp2_with (fail)
  clear hW0
  refine (circs_c (m0 : Int) W0).mono ?_
  rintro e wq ⟨rfl, hwq⟩
  rw [hwq]
  clear hwq wq
  by_cases hc : 1 ≤ (m0 : Int) ∧ (m0 : Int) ≤ 24
  case neg =>
    rw [decide_eq_false hc]
    go_wp2
    go_ret
    exact TkR.no (fun t => hc (by have := t.1; have := HM.out.1; omega)) HB.out
  rw [decide_eq_true hc]
  by_cases he : m1 = m0
  case neg =>
    have hne : ((m1 : Int) != (m0 : Int)) = true := by simp; omega
    go_wp2
    go_ret
    exact TkR.no (fun t => he (by have := t.2.1; have := HM.out; omega)) HB.out
  subst he
  have hne : ((m1 : Int) != (m1 : Int)) = false := by simp
  go_wp2
  refine wp_loop_rounds 3 ?_
  rw [rounds_succ]
  go_wp2_with (fail)
  rw [idx28_0]
  simp only [Result.andThen_ok]
  go_wp2_with (fail)
  refine (seen_c _ z0 W0 (HR.out.r0.below HB.out)).mono ?_
  rintro e wq ⟨r, rfl, hr, hwq⟩
  rw [hwq]
  clear hwq wq
  by_cases g0 : SeOk z0
  case neg =>
    obtain rfl : r = false := by cases r; rfl; exact absurd (hr.1 rfl) g0
    go_wp2
    go_ret
    exact TkR.no (fun t => g0 t.2.2.1.1) HB.out
  obtain rfl : r = true := hr.2 g0
  have G0 : Hid (SeOk z0) := g0
  clear hr g0
  by_cases u0 : l0 < 0
  · go_wp2
    go_ret
    exact TkR.no (fun t => by have := t.2.2.1.2.1.1; omega) HB.out
  by_cases v0 : 1000000 < l0
  · go_wp2
    go_ret
    exact TkR.no (fun t => by have := t.2.2.1.2.1.2; omega) HB.out
  go_wp2_with (fail)
  refine (notes_c _ n0 m1 W0 (HR.out.r2.below HB.out)).mono ?_
  rintro e wn0 ⟨r, rfl, hr, bn0⟩
  have HBn0 : Hid (Below w.heap.size w wn0) := belowCall HB.out bn0 HB.out.size
  by_cases q0 : NoOk m1 n0
  case neg =>
    obtain rfl : r = false := by cases r; rfl; exact absurd (hr.1 rfl) q0
    clear hr bn0
    go_wp2
    go_ret
    exact TkR.no (fun t => q0 (by have := t.2.2.1.2.2; rw [HM.out.1] at this; exact this)) HBn0.out
  obtain rfl : r = true := hr.2 q0
  have N0 : Hid (NoOk m1 n0) := q0
  have K1 : Hid (Blk wn0 w.heap.size (T6 (.slice a0 m1 p0) (.slice a1 m1 p1) l0 l1 (.slice a2 k0 p2) (.slice a3 k1 p3)) 33) := K0.out.below bn0 K0.out.lt
  clear hr q0 bn0 x0 x1 x2 x3 x4 x5 K0 xl
  have x0 := K1.out.cell 0
  have x1 := K1.out.cell 1
  have x2 := K1.out.cell 2
  have x3 := K1.out.cell 3
  have x4 := K1.out.cell 4
  have x5 := K1.out.cell 5
  have xl := K1.out.lt
  simp at x0 x1 x2 x3 x4 x5
  go_wp2
  rw [rounds_succ]
  go_wp2_with (fail)
  rw [idx28_1]
  simp only [Result.andThen_ok]
  go_wp2_with (fail)
  refine (seen_c _ z1 wn0 (HR.out.r1.below HBn0.out)).mono ?_
  rintro e wq ⟨r, rfl, hr, hwq⟩
  rw [hwq]
  clear hwq wq
  by_cases g1 : SeOk z1
  case neg =>
    obtain rfl : r = false := by cases r; rfl; exact absurd (hr.1 rfl) g1
    go_wp2
    go_ret
    exact TkR.no (fun t => g1 t.2.2.2.1) HBn0.out
  obtain rfl : r = true := hr.2 g1
  have G1 : Hid (SeOk z1) := g1
  clear hr g1
  by_cases u1 : l1 < 0
  · go_wp2
    go_ret
    exact TkR.no (fun t => by have := t.2.2.2.2.1.1; omega) HBn0.out
  by_cases v1 : 1000000 < l1
  · go_wp2
    go_ret
    exact TkR.no (fun t => by have := t.2.2.2.2.1.2; omega) HBn0.out
  go_wp2_with (fail)
  refine (notes_c _ n1 m1 wn0 (HR.out.r3.below HBn0.out)).mono ?_
  rintro e wn1 ⟨r, rfl, hr, bn1⟩
  have HBn1 : Hid (Below w.heap.size w wn1) := belowCall HBn0.out bn1 HBn0.out.size
  by_cases q1 : NoOk m1 n1
  case neg =>
    obtain rfl : r = false := by cases r; rfl; exact absurd (hr.1 rfl) q1
    clear hr bn1
    go_wp2
    go_ret
    exact TkR.no (fun t => q1 (by have := t.2.2.2.2.2; rw [HM.out.1] at this; exact this)) HBn1.out
  obtain rfl : r = true := hr.2 q1
  have N1 : Hid (NoOk m1 n1) := q1
  clear hr q1 bn1
  go_wp2
  rw [rounds_succ]
  go_wp2
  go_ret
  refine TkR.yes ?_ HBn1.out
  have hm := HM.out
  refine ⟨by omega, by omega, ⟨G0.out, ⟨by omega, by omega⟩, by rw [hm.1]; exact N0.out⟩, ⟨G1.out, ⟨by omega, by omega⟩, by rw [hm.1]; exact N1.out⟩⟩
end Go.Proofs.Ytkehcalijamhjaa
