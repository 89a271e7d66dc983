/- The path that begins, or ends, at a switch with a Mid: the model's; no condition. -/
import Derived.Test.YtikhfeafbckjlaaDoorFFind
import Derived.Test.YtikhfeafbckjlaaDoorFDef
namespace Go.Proofs.YtikhfeafbckjlaaDoor
open Go.RowKit Go.ChangeShapes Go.WideShapes Go.ChangeAt
set_option linter.unusedVariables false
set_option linter.unusedSimpArgs false
set_option maxRecDepth 8000
/-- all paths begin and end at switches -/
def InR (ps : Tri) : Prop := ∀ x ∈ ps, (0 ≤ x.1 ∧ x.1 ≤ 23) ∧ (0 ≤ x.2.1 ∧ x.2.1 ≤ 23)
theorem FOk.inr {s p m : Int} {ps : Tri} (h : FOk s p m ps) : InR ps := fun x hx => by
  obtain ⟨i, hi, rfl⟩ := List.getElem_of_mem hx
  have := (h.2.2.2 i hi hi).1
  have hs := sides h.1 h.2.1
  obtain ⟨⟨a, b⟩, ⟨c, d⟩, -⟩ := this
  omega
/-- the path that begins at a switch with a Mid -/
def inQ (p side mid : Int) (x : Int × Int × Int) : Bool := (x.1 / p == side) && (x.2.2 == mid)
def outQ (p side mid : Int) (x : Int × Int × Int) : Bool := (x.2.1 / p == side) && (x.2.2 == mid)
set_option maxHeartbeats 3200000 in
theorem l3In_c (s p m side mid : Int) (v : Value) (ps : Tri) (w : World) (h : Rt w v ps) (hR : InR ps) (hp1 : 1 ≤ p) (hp4 : p ≤ 4) :
   Calls Tryd.prog 46 #[.agg (F4 s p m v), .int .i64 side, .int .i64 mid] w (IxE (inQ p side mid) ps w) := by
  have hb : Below w.heap.size w (w.alloc (Obj.cells (F4 s p m v) 26)) := (Below.refl _ _).alloc (Nat.le_refl _) _
  have HB : Hid (Below w.heap.size w (w.alloc (Obj.cells (F4 s p m v) 26)) ∧ Blk (w.alloc (Obj.cells (F4 s p m v) 26)) w.heap.size (F4 s p m v) 26) := ⟨hb, Blk.new _ _ _⟩
  have HR : Hid (InR ps) := hR
  have hp0 : p ≠ 0 := by omega
  obtain ⟨a, cap, rfl, h1, h2, h3⟩ := h
  unfold maxLen at h2
  clear hb hR
  go_enter Tryd.func46, Tryd.ntmps46
  go_wp2
  obtain ⟨W0, hW0⟩ : ∃ W0, w.alloc (Obj.cells (F4 s p m (.slice a ps.length cap)) 26) = W0 := ⟨_, rfl⟩
  rw [hW0] at HB ⊢
  clear hW0
  go_loopw [7] (fun i wr => ∃ j : Nat, j ≤ ps.length ∧ i = .int .i64 j ∧ Hid (∀ t (ht : t < j) (h : t < ps.length), inQ p side mid ps[t] = false) ∧ Hid (Below w.heap.size w wr ∧ Blk wr w.heap.size (F4 s p m (.slice a ps.length cap)) 26)) (fun i _ => ps.length - (intOf i).toNat)
  case atStart => exact ⟨0, Nat.zero_le _, rfl, fun t ht => by omega, HB.out⟩
  case round =>
    obtain ⟨j, hj, rfl, hA, hbr⟩ := hrel
    have k1 := hbr.out.2.cell 1
    have k3 := hbr.out.2.cell 3
    simp at k1 k3
    by_cases hlt : j < ps.length
    case neg =>
      obtain rfl : j = ps.length := by omega
      have HN : Hid (None3 (inQ p side mid) ps) := fun i h => hA.out i h h
      clear h3
      go_wp2
      go_ret
      exact IxE.none HN.out hbr.out.1
    case pos =>
    rcases h3 with h3 | ⟨b, off, rfl, h4⟩
    · subst h3; simp at hlt
    have hc := h4 j hlt
    have hcb : b < w.heap.size := block_lt_of_cell hc.1
    obtain ⟨x, ex⟩ : ∃ x, ps[j].1 = x := ⟨_, rfl⟩
    obtain ⟨y, ey⟩ : ∃ y, ps[j].2.1 = y := ⟨_, rfl⟩
    obtain ⟨z, ez⟩ : ∃ z, ps[j].2.2 = z := ⟨_, rfl⟩
    have HX : Hid (ps[j] = (x, y, z)) := by rw [← ex, ← ey, ← ez]; rfl
    have hr := HR.out ps[j] (List.getElem_mem hlt)
    rw [HX.out] at hr
    obtain ⟨⟨x1, x2⟩, ⟨y1, y2⟩⟩ := hr
    dsimp only at x1 x2 y1 y2
    rw [ex, ey, ez] at hc
    have c0 := (hbr.out.1.cell (p := ⟨b, off + j * 3, none⟩) hcb).trans hc.1
    have c1 := (hbr.out.1.cell (p := ⟨b, off + j * 3 + 1, none⟩) hcb).trans hc.2.1
    have c2 := (hbr.out.1.cell (p := ⟨b, off + j * 3 + 2, none⟩) hcb).trans hc.2.2
    have HF : Hid (inQ p side mid (x, y, z) = true → Fst (inQ p side mid) ps j) := fun h => ⟨hlt, by rw [HX.out]; exact h, fun i hi => hA.out i hi (by omega)⟩
    have HG : Hid (inQ p side mid (x, y, z) = false → ∀ t (ht : t < j + 1) (h : t < ps.length), inQ p side mid ps[t] = false) := fun hh t ht h => by
      by_cases htj : t < j
      · exact hA.out t htj h
      · obtain rfl : t = j := by omega
        rw [HX.out]; exact hh
    have HQ : Hid (inQ p side mid (x, y, z) = ((x / p == side) && (z == mid))) := rfl
    have HB2 : Hid (∀ N, Below w.heap.size w (wr.drewN N) ∧ Blk (wr.drewN N) w.heap.size (F4 s p m (.slice (some ⟨b, off, none⟩) ps.length cap)) 26) := fun N => ⟨below_drewN hbr.out.1 _, hbr.out.2.drewN _⟩
    obtain ⟨q1, e1⟩ : ∃ q, (x / p == side) = q := ⟨_, rfl⟩
    obtain ⟨q2, e2⟩ : ∃ q, (z == mid) = q := ⟨_, rfl⟩
    rw [e1, e2] at HQ
    clear h4 hc ex ey ez hA hbr
    cases q1 with
    | false =>
      go_wp2
      go_quiet (fail)
      go_wp2
      go_roundw
      case rel => exact ⟨j + 1, by omega, by go_num, HG.out (by rw [HQ.out]; rfl), HB2.out _⟩
      case measure => simp [intOf]; omega
    | true =>
      cases q2 with
      | false =>
        go_wp2
        go_quiet (fail)
        go_wp2
        go_roundw
        case rel => exact ⟨j + 1, by omega, by go_num, HG.out (by rw [HQ.out]; rfl), HB2.out _⟩
        case measure => simp [intOf]; omega
      | true =>
        go_wp2
        go_quiet (fail)
        go_wp2
        go_ret
        exact IxE.found (HF.out (by rw [HQ.out]; rfl)) (HB2.out _).1
set_option maxHeartbeats 3200000 in
theorem l3Out_c (s p m side mid : Int) (v : Value) (ps : Tri) (w : World) (h : Rt w v ps) (hR : InR ps) (hp1 : 1 ≤ p) (hp4 : p ≤ 4) :
   Calls Tryd.prog 47 #[.agg (F4 s p m v), .int .i64 side, .int .i64 mid] w (IxE (outQ p side mid) ps w) := by
  have hb : Below w.heap.size w (w.alloc (Obj.cells (F4 s p m v) 26)) := (Below.refl _ _).alloc (Nat.le_refl _) _
  have HB : Hid (Below w.heap.size w (w.alloc (Obj.cells (F4 s p m v) 26)) ∧ Blk (w.alloc (Obj.cells (F4 s p m v) 26)) w.heap.size (F4 s p m v) 26) := ⟨hb, Blk.new _ _ _⟩
  have HR : Hid (InR ps) := hR
  have hp0 : p ≠ 0 := by omega
  obtain ⟨a, cap, rfl, h1, h2, h3⟩ := h
  unfold maxLen at h2
  clear hb hR
  go_enter Tryd.func47, Tryd.ntmps47
  go_wp2
  obtain ⟨W0, hW0⟩ : ∃ W0, w.alloc (Obj.cells (F4 s p m (.slice a ps.length cap)) 26) = W0 := ⟨_, rfl⟩
  rw [hW0] at HB ⊢
  clear hW0
  go_loopw [7] (fun i wr => ∃ j : Nat, j ≤ ps.length ∧ i = .int .i64 j ∧ Hid (∀ t (ht : t < j) (h : t < ps.length), outQ p side mid ps[t] = false) ∧ Hid (Below w.heap.size w wr ∧ Blk wr w.heap.size (F4 s p m (.slice a ps.length cap)) 26)) (fun i _ => ps.length - (intOf i).toNat)
  case atStart => exact ⟨0, Nat.zero_le _, rfl, fun t ht => by omega, HB.out⟩
  case round =>
    obtain ⟨j, hj, rfl, hA, hbr⟩ := hrel
    have k1 := hbr.out.2.cell 1
    have k3 := hbr.out.2.cell 3
    simp at k1 k3
    by_cases hlt : j < ps.length
    case neg =>
      obtain rfl : j = ps.length := by omega
      have HN : Hid (None3 (outQ p side mid) ps) := fun i h => hA.out i h h
      clear h3
      go_wp2
      go_ret
      exact IxE.none HN.out hbr.out.1
    case pos =>
    rcases h3 with h3 | ⟨b, off, rfl, h4⟩
    · subst h3; simp at hlt
    have hc := h4 j hlt
    have hcb : b < w.heap.size := block_lt_of_cell hc.1
    obtain ⟨x, ex⟩ : ∃ x, ps[j].1 = x := ⟨_, rfl⟩
    obtain ⟨y, ey⟩ : ∃ y, ps[j].2.1 = y := ⟨_, rfl⟩
    obtain ⟨z, ez⟩ : ∃ z, ps[j].2.2 = z := ⟨_, rfl⟩
    have HX : Hid (ps[j] = (x, y, z)) := by rw [← ex, ← ey, ← ez]; rfl
    have hr := HR.out ps[j] (List.getElem_mem hlt)
    rw [HX.out] at hr
    obtain ⟨⟨x1, x2⟩, ⟨y1, y2⟩⟩ := hr
    dsimp only at x1 x2 y1 y2
    rw [ex, ey, ez] at hc
    have c0 := (hbr.out.1.cell (p := ⟨b, off + j * 3, none⟩) hcb).trans hc.1
    have c1 := (hbr.out.1.cell (p := ⟨b, off + j * 3 + 1, none⟩) hcb).trans hc.2.1
    have c2 := (hbr.out.1.cell (p := ⟨b, off + j * 3 + 2, none⟩) hcb).trans hc.2.2
    have HF : Hid (outQ p side mid (x, y, z) = true → Fst (outQ p side mid) ps j) := fun h => ⟨hlt, by rw [HX.out]; exact h, fun i hi => hA.out i hi (by omega)⟩
    have HG : Hid (outQ p side mid (x, y, z) = false → ∀ t (ht : t < j + 1) (h : t < ps.length), outQ p side mid ps[t] = false) := fun hh t ht h => by
      by_cases htj : t < j
      · exact hA.out t htj h
      · obtain rfl : t = j := by omega
        rw [HX.out]; exact hh
    have HQ : Hid (outQ p side mid (x, y, z) = ((y / p == side) && (z == mid))) := rfl
    have HB2 : Hid (∀ N, Below w.heap.size w (wr.drewN N) ∧ Blk (wr.drewN N) w.heap.size (F4 s p m (.slice (some ⟨b, off, none⟩) ps.length cap)) 26) := fun N => ⟨below_drewN hbr.out.1 _, hbr.out.2.drewN _⟩
    obtain ⟨q1, e1⟩ : ∃ q, (y / p == side) = q := ⟨_, rfl⟩
    obtain ⟨q2, e2⟩ : ∃ q, (z == mid) = q := ⟨_, rfl⟩
    rw [e1, e2] at HQ
    clear h4 hc ex ey ez hA hbr
    cases q1 with
    | false =>
      go_wp2
      go_quiet (fail)
      go_wp2
      go_roundw
      case rel => exact ⟨j + 1, by omega, by go_num, HG.out (by rw [HQ.out]; rfl), HB2.out _⟩
      case measure => simp [intOf]; omega
    | true =>
      cases q2 with
      | false =>
        go_wp2
        go_quiet (fail)
        go_wp2
        go_roundw
        case rel => exact ⟨j + 1, by omega, by go_num, HG.out (by rw [HQ.out]; rfl), HB2.out _⟩
        case measure => simp [intOf]; omega
      | true =>
        go_wp2
        go_quiet (fail)
        go_wp2
        go_ret
        exact IxE.found (HF.out (by rw [HQ.out]; rfl)) (HB2.out _).1
end Go.Proofs.YtikhfeafbckjlaaDoor
