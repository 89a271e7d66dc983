/- The first path of an inlet; no condition. -/
import Derived.Test.YtikhfeafbckjlaaDoorFCp
namespace Go.Proofs.YtikhfeafbckjlaaDoor
open Go.RowKit Go.ChangeShapes Go.WideShapes Go.ChangeAt
set_option linter.unusedVariables false
set_option linter.unusedSimpArgs false
set_option maxRecDepth 8000
/-- the variable that stands for no path -/
def NoP (w : World) : Prop := w.cell? ⟨0, 0, none⟩ = some (.int .i64 (-1)) ∧ w.cell? ⟨0, 1, none⟩ = some (.int .i64 (-1)) ∧ w.cell? ⟨0, 2, none⟩ = some (.int .i64 (-1))
theorem NoP.lt {w : World} (h : NoP w) : 0 < w.heap.size := block_lt_of_cell h.1
theorem NoP.below {w w' : World} {B : Nat} (h : NoP w) (hb : Below B w w') (hB : 0 < B) : NoP w' := ⟨(hb.cell hB).trans h.1, (hb.cell hB).trans h.2.1, (hb.cell hB).trans h.2.2⟩
/-- the first path that is as asked has the place k -/
def Fst (q : Int × Int × Int → Bool) (ps : Tri) (k : Nat) : Prop := ∃ h : k < ps.length, q ps[k] = true ∧ ∀ i (hi : i < k), q (ps[i]'(by omega)) = false
def None3 (q : Int × Int × Int → Bool) (ps : Tri) : Prop := ∀ i (h : i < ps.length), q ps[i] = false
/-- the place of the first, -1 where there is none -/
def IxR (q : Int × Int × Int → Bool) (ps : Tri) (r : Int) : Prop := (∃ k : Nat, r = k ∧ Fst q ps k) ∨ (r = -1 ∧ None3 q ps)
/-- what a call answers that looks for the first -/
def IxE (q : Int × Int × Int → Bool) (ps : Tri) (w : World) (e : Ending) (w' : World) : Prop := ∃ r, e = .returned (.int .i64 r) ∧ IxR q ps r ∧ Below w.heap.size w w'
theorem IxE.found {q : Int × Int × Int → Bool} {ps : Tri} {w w' : World} {k : Nat} (h : Fst q ps k) (b : Below w.heap.size w w') : IxE q ps w (.returned (.int .i64 k)) w' := ⟨_, rfl, .inl ⟨k, rfl, h⟩, b⟩
theorem IxE.none {q : Int × Int × Int → Bool} {ps : Tri} {w w' : World} (h : None3 q ps) (b : Below w.heap.size w w') : IxE q ps w (.returned (.int .i64 (-1))) w' := ⟨_, rfl, .inr ⟨rfl, h⟩, b⟩
theorem From1_c (x y z f : Int) (B : Nat) (w : World) (hB : Blk w B #[.int .i64 f] 3) : Calls Tryd.prog 61 #[.agg (P3 x y z), .pointer (some ⟨B, 0, none⟩)] w fun e w' => e = .returned (.bool (x == f)) ∧ Below w.heap.size w w' := by
  have HB : Hid (Below w.heap.size w (w.alloc (Obj.cells (P3 x y z) 35))) := (Below.refl _ _).alloc (Nat.le_refl _) _
  have hl := hB.lt
  have c0 := hB.cell 0
  simp at c0
  go_enter Tryd.func61, Tryd.ntmps61
  go_wp2
  go_ret
  exact ⟨rfl, HB.out⟩
set_option maxHeartbeats 1600000 in
theorem indexFrom_c (v : Value) (ps : Tri) (f : Int) (B : Nat) (w : World) (h : Rt w v ps) (hB : Blk w B #[.int .i64 f] 3) :
   Calls Tryd.prog 67 #[v, .func (.func 61) #[] #[.pointer (some ⟨B, 0, none⟩)]] w (IxE (fun x => x.1 == f) ps w) := by
  obtain ⟨a, cap, rfl, h1, h2, h3⟩ := h
  unfold maxLen at h2
  have HK : Hid (Blk w B #[.int .i64 f] 3) := hB
  clear hB
  go_enter Tryd.func67, Tryd.ntmps67
  go_wp2
  go_loopw [8] (fun i wr => ∃ j : Nat, j ≤ ps.length ∧ i = .int .i64 j ∧ Hid (∀ t (ht : t < j) (h : t < ps.length), (ps[t].1 == f) = false) ∧ Hid (Below w.heap.size w wr)) (fun i _ => ps.length - (intOf i).toNat)
  case atStart => exact ⟨0, Nat.zero_le _, rfl, fun t ht => by omega, Below.refl _ _⟩
  case round =>
    obtain ⟨j, hj, rfl, hA, hbr⟩ := hrel
    by_cases hlt : j < ps.length
    case neg =>
      obtain rfl : j = ps.length := by omega
      have HN : Hid (None3 (fun x => x.1 == f) ps) := fun i h => hA.out i h h
      clear h3
      go_wp2
      go_ret
      exact IxE.none HN.out hbr.out
    case pos =>
    rcases h3 with h3 | ⟨b, off, rfl, h4⟩
    · subst h3; simp at hlt
    have hc := h4 j hlt
    have hcb : b < w.heap.size := block_lt_of_cell hc.1
    obtain ⟨x, ex⟩ : ∃ x, ps[j].1 = x := ⟨_, rfl⟩
    obtain ⟨y, ey⟩ : ∃ y, ps[j].2.1 = y := ⟨_, rfl⟩
    obtain ⟨z, ez⟩ : ∃ z, ps[j].2.2 = z := ⟨_, rfl⟩
    have HX : Hid (ps[j] = (x, y, z)) := by rw [← ex, ← ey, ← ez]; rfl
    rw [ex, ey, ez] at hc
    have c0 := (hbr.out.cell (p := ⟨b, off + j * 3, none⟩) hcb).trans hc.1
    have c1 := (hbr.out.cell (p := ⟨b, off + j * 3 + 1, none⟩) hcb).trans hc.2.1
    have c2 := (hbr.out.cell (p := ⟨b, off + j * 3 + 2, none⟩) hcb).trans hc.2.2
    clear h4 hc ex ey ez
    go_wp2_with (fail)
    refine (From1_c x y z f B wr (HK.out.below hbr.out HK.out.lt)).mono ?_
    rintro e w2 ⟨rfl, b2⟩
    have HB2 : Hid (Below w.heap.size w w2) := belowCall hbr.out b2 hbr.out.size
    clear b2
    obtain ⟨t, ht⟩ : ∃ t, (x == f) = t := ⟨_, rfl⟩
    rw [ht]
    have HT : Hid ((x == f) = t) := ht
    clear ht
    cases t with
    | true =>
      have HF : Hid (Fst (fun x => x.1 == f) ps j) := ⟨hlt, by rw [HX.out]; exact HT.out, fun i hi => hA.out i hi (by omega)⟩
      go_wp2
      go_ret
      exact IxE.found HF.out HB2.out
    | false =>
      have HF : Hid (∀ t (ht : t < j + 1) (h : t < ps.length), (ps[t].1 == f) = false) := fun t ht h => by
        by_cases htj : t < j
        · exact hA.out t htj h
        · obtain rfl : t = j := by omega
          rw [HX.out]; exact HT.out
      go_wp2
      go_roundw
      case rel => exact ⟨j + 1, by omega, by go_num, HF.out, HB2.out⟩
      case measure => simp [intOf]; omega
end Go.Proofs.YtikhfeafbckjlaaDoor
