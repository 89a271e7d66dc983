/- Talks that share, and the first talk that has a line or a circuit; no condition. -/
import Derived.Test.YtmfmlbiplagmiaaDoorMbk
import Derived.Test.YtmfmlbiplagmiaaDoorBkh
namespace Go.Proofs.YtmfmlbiplagmiaaDoor
open Go.RowKit Go.ChangeShapes Go.WideShapes Go.ChangeAt
set_option linter.unusedVariables false
set_option linter.unusedSimpArgs false
set_option maxRecDepth 8000

set_option maxHeartbeats 1600000 in
theorem shares_c (x0 x1 x2 y0 y1 y2 : Int) (w : World) : Calls Tryd.prog 34 #[.agg #[.int .i64 x0, .int .i64 x1, .int .i64 x2], .agg #[.int .i64 y0, .int .i64 y1, .int .i64 y2]] w fun e w' => e = .returned (.bool (shB (x0, x1, x2) (y0, y1, y2))) ∧ Below w.heap.size w w' := by
  obtain ⟨W1, hW1⟩ : ∃ W1, (w.alloc (Obj.cells #[.int .i64 x0, .int .i64 x1, .int .i64 x2] 38)).alloc (Obj.cells #[.int .i64 y0, .int .i64 y1, .int .i64 y2] 38) = W1 := ⟨_, rfl⟩
  have HB : Hid (Below w.heap.size w W1) := hW1 ▸ ((Below.refl _ _).alloc (Nat.le_refl _) _).alloc (by simp) _
  have k0 : Blk W1 w.heap.size #[.int .i64 x0, .int .i64 x1, .int .i64 x2] 38 := hW1 ▸ (Blk.new _ _ _).alloc _
  have k1 : Blk W1 (w.heap.size + 1) #[.int .i64 y0, .int .i64 y1, .int .i64 y2] 38 := hW1 ▸ Blk.newAt _ (w.heap.size + 1) _ 38 (by simp)
  have c0 := k0.cell 0
  have c1 := k0.cell 1
  have c2 := k0.cell 2
  have d0 := k1.cell 0
  have d1 := k1.cell 1
  have d2 := k1.cell 2
  simp at c0 c1 c2 d0 d1 d2
  have HW1 : Hid (_ = W1) := hW1
  have HE : Hid (shB (x0, x1, x2) (y0, y1, y2) = (decide (x0 = y0) || (decide (x0 = y1) || (decide (x1 = y0) || (decide (x1 = y1) || (decide (0 ≤ x2) && decide (x2 = y2))))))) := rfl
  obtain ⟨Q, hQ⟩ : ∃ Q, shB (x0, x1, x2) (y0, y1, y2) = Q := ⟨_, rfl⟩
  rw [hQ] at HE ⊢
  clear hW1 hQ k0 k1
  go_enter Tryd.func34, Tryd.ntmps34
  by_cases h1 : x0 = y0
  · have b1 : (x0 == y0) = true := by simp [h1]
    obtain rfl : Q = true := by rw [HE.out]; simp [h1]
    clear h1
    go_wp2_with (rw [HW1.out])
    go_ret
    exact ⟨rfl, HB.out⟩
  have b1 : (x0 == y0) = false := by simp [h1]
  by_cases h2 : x0 = y1
  · have b2 : (x0 == y1) = true := by simp [h2]
    obtain rfl : Q = true := by rw [HE.out]; simp [h2]
    clear h1 h2
    go_wp2_with (rw [HW1.out])
    go_ret
    exact ⟨rfl, HB.out⟩
  have b2 : (x0 == y1) = false := by simp [h2]
  by_cases h3 : x1 = y0
  · have b3 : (x1 == y0) = true := by simp [h3]
    obtain rfl : Q = true := by rw [HE.out]; simp [h3]
    clear h1 h2 h3
    go_wp2_with (rw [HW1.out])
    go_ret
    exact ⟨rfl, HB.out⟩
  have b3 : (x1 == y0) = false := by simp [h3]
  by_cases h4 : x1 = y1
  · have b4 : (x1 == y1) = true := by simp [h4]
    obtain rfl : Q = true := by rw [HE.out]; simp [h4]
    clear h1 h2 h3 h4
    go_wp2_with (rw [HW1.out])
    go_ret
    exact ⟨rfl, HB.out⟩
  have b4 : (x1 == y1) = false := by simp [h4]
  have HQ : Hid (Q = (decide (0 ≤ x2) && decide (x2 = y2))) := by show _ = _; rw [HE.out]; simp [h1, h2, h3, h4]
  clear h1 h2 h3 h4 HE
  by_cases h5 : 0 ≤ x2
  case neg =>
    obtain rfl : Q = false := by rw [HQ.out, decide_eq_false h5]; rfl
    have e5 : decide (0 ≤ x2) = false := decide_eq_false h5
    go_wp2_with (rw [HW1.out])
    go_ret
    exact ⟨rfl, HB.out⟩
  have e5 : decide (0 ≤ x2) = true := decide_eq_true h5
  by_cases h6 : x2 = y2
  · obtain rfl : Q = true := by rw [HQ.out, e5, decide_eq_true h6]; rfl
    have b6 : (x2 == y2) = true := by simp [h6]
    clear h6
    go_wp2_with (rw [HW1.out])
    go_ret
    exact ⟨rfl, HB.out⟩
  · obtain rfl : Q = false := by rw [HQ.out, decide_eq_false h6]; simp
    have b6 : (x2 == y2) = false := by simp [h6]
    clear h6
    go_wp2_with (rw [HW1.out])
    go_ret
    exact ⟨rfl, HB.out⟩
/-- which talks are asked for -/
def hasB (c : Bool) (i : Int) (t : Tk) : Bool := if c then hasC i t else hasL i t
theorem fst18_at {f : Tk → Bool} {ts : List Tk} {k : Nat} (hk : k < ts.length) (h : f ts[k] = true) (hb : ∀ i (hi : i < ts.length), i < k → f ts[i] = false) : fst18 f ts = (k : Int) := by
  have h1 : ts.any f = true := by rw [List.any_eq_true]; exact ⟨_, List.getElem_mem hk, h⟩
  unfold fst18; rw [h1, if_pos rfl]
  have h2 : ts.findIdx f = k := by
    rw [List.findIdx_eq hk]
    exact ⟨h, fun i hi => hb i (by omega) hi⟩
  rw [h2]
theorem fst18_none {f : Tk → Bool} {ts : List Tk} (hb : ∀ i (hi : i < ts.length), f ts[i] = false) : fst18 f ts = -1 := by
  refine fst18_no ?_
  rw [List.any_eq_false]
  intro x hx
  obtain ⟨i, hi, rfl⟩ := List.getElem_of_mem hx
  rw [hb i hi]; simp
set_option maxHeartbeats 3200000 in
theorem first_c (va vl vc : Value) (ts : List Tk) (ii : Int) (c : Bool) (w : World) (h : Rg 3 tkC w va ts) (hn : ts.length ≤ 1000) :
   Calls Tryd.prog 65 #[.agg (B3 va vl vc), .int .i64 ii, .bool c] w fun e w' => e = .returned (.int .i64 (fst18 (hasB c ii) ts)) ∧ Below w.heap.size w w' := by
  obtain ⟨W1, hW1⟩ : ∃ W1, w.alloc (Obj.cells (B3 va vl vc) 27) = W1 := ⟨_, rfl⟩
  have hb : Below w.heap.size w W1 := hW1 ▸ (Below.refl _ _).alloc (Nat.le_refl _) _
  have HB : Hid (Below w.heap.size w W1) := hb
  have K0 : Hid (Blk W1 w.heap.size (B3 va vl vc) 27) := by show Blk _ _ _ _; rw [← hW1]; exact Blk.new _ _ _
  have HR : Hid (Rg 3 tkC w va ts) := h
  have HN : Hid (ts.length ≤ 1000) := hn
  have HAT : Hid (∀ k (hk : k < ts.length), hasB c ii ts[k] = true → (∀ j (hj : j < ts.length), j < k → hasB c ii ts[j] = false) → fst18 (hasB c ii) ts = (k : Int)) := fun k hk h hb => fst18_at hk h hb
  have HNO : Hid ((∀ j (hj : j < ts.length), hasB c ii ts[j] = false) → fst18 (hasB c ii) ts = -1) := fst18_none
  obtain ⟨Q, hQ⟩ : ∃ Q, fst18 (hasB c ii) ts = Q := ⟨_, rfl⟩
  rw [hQ] at HAT HNO ⊢
  obtain ⟨a, cap, rfl, -⟩ := h
  have x0 := K0.out.cell 0
  simp at x0
  have HW1 : Hid (_ = W1) := hW1
  clear hb hW1 hQ hn
  go_enter Tryd.func65, Tryd.ntmps65
  go_wp2_with (rw [HW1.out])
  clear x0
  go_loopw [7] (fun i wr => ∃ j : Nat, j ≤ ts.length ∧ i = .int .i64 j ∧ Hid (∀ k (hk : k < ts.length), k < j → hasB c ii ts[k] = false) ∧ Hid (Below W1.heap.size W1 wr)) (fun i _ => ts.length - (intOf i).toNat)
  case atStart => exact ⟨0, Nat.zero_le _, rfl, fun k hk h => by omega, Below.refl _ _⟩
  case round =>
    obtain ⟨j, hj, rfl, hA, hB⟩ := hrel
    have hk0 := K0.out.below hB.out K0.out.lt
    have x0 := hk0.cell 0
    simp at x0
    have HBW : Hid (Below w.heap.size w wr) := belowCall HB.out hB.out HB.out.size
    by_cases hlt : j < ts.length
    case neg =>
      obtain rfl : Q = -1 := HNO.out fun k hk => hA.out k hk (by omega)
      have hnl : ¬ ((j : Int) < (ts.length : Int)) := by omega
      clear hlt hj hA hk0 hB
      go_wp2
      go_ret
      exact ⟨rfl, HBW.out⟩
    case pos =>
    obtain ⟨b, off, cp, he, -, -, c0, c1, c2⟩ := rg_at (HR.out.below HBW.out) hlt
    cases he
    have HS : Hid (hasB c ii ts[j] = false → ∀ k (hk : k < ts.length), k < j + 1 → hasB c ii ts[k] = false) := fun hq k hk h => by
      rcases Nat.lt_or_ge k j with h' | h'
      · exact hA.out k hk h'
      · obtain rfl : k = j := by omega
        exact hq
    have HF : Hid (hasB c ii ts[j] = true → Q = (j : Int)) := fun hq => HAT.out j hlt hq fun k hk h => hA.out k hk h
    obtain ⟨x, hx⟩ : ∃ x, ts[j] = x := ⟨_, rfl⟩
    rw [hx] at c0 c1 c2 HS HF
    obtain ⟨t0, t1, t2⟩ := x
    dsimp only at c0 c1 c2
    have hi0 : (0 : Int) ≤ (j : Int) := by omega
    have hi1 : (j : Int) < (ts.length : Int) := by omega
    have hwj : wrap64 ((j : Int) + 1) = (j : Int) + 1 := wrap64_in (by have := HN.out; omega)
    have hszr : w.heap.size < wr.heap.size := hk0.lt
    have hbsz : b < wr.heap.size := block_lt_of_cell c0
    have HBA : Hid (Below w.heap.size w (wr.alloc (Obj.cells #[Value.int IntKind.i64 t0, Value.int IntKind.i64 t1, Value.int IntKind.i64 t2] 38)) ∧ Below W1.heap.size W1 (wr.alloc (Obj.cells #[Value.int IntKind.i64 t0, Value.int IntKind.i64 t1, Value.int IntKind.i64 t2] 38))) := ⟨HBW.out.alloc HBW.out.size _, hB.out.alloc hB.out.size _⟩
    clear hx hk0 hA
    cases c with
    | true =>
      by_cases g : t2 = ii
      · have b2 : (t2 == ii) = true := by simp [g]
        obtain rfl : Q = (j : Int) := HF.out (by simp [hasB, hasC, g])
        clear g
        go_wp2
        go_ret
        exact ⟨rfl, HBA.out.1⟩
      · have b2 : (t2 == ii) = false := by simp [g]
        have HS2 : Hid (∀ k (hk : k < ts.length), k < j + 1 → hasB true ii ts[k] = false) := HS.out (by simp [hasB, hasC, g])
        clear g HS HF
        go_wp2
        go_roundw
        case rel => exact ⟨j + 1, by omega, by go_num, HS2.out, HBA.out.2⟩
        case measure => (rw [hwj]; exact meas18 hlt)
    | false =>
      by_cases g : t0 = ii
      · have b2 : (t0 == ii) = true := by simp [g]
        obtain rfl : Q = (j : Int) := HF.out (by simp [hasB, hasL, g])
        clear g
        go_wp2
        go_ret
        exact ⟨rfl, HBA.out.1⟩
      have b2 : (t0 == ii) = false := by simp [g]
      by_cases g' : t1 = ii
      · have b3 : (t1 == ii) = true := by simp [g']
        obtain rfl : Q = (j : Int) := HF.out (by simp [hasB, hasL, g'])
        clear g g'
        go_wp2
        go_ret
        exact ⟨rfl, HBA.out.1⟩
      · have b3 : (t1 == ii) = false := by simp [g']
        have HS2 : Hid (∀ k (hk : k < ts.length), k < j + 1 → hasB false ii ts[k] = false) := HS.out (by simp [hasB, hasL, g, g'])
        clear g g' HS HF
        go_wp2
        go_roundw
        case rel => exact ⟨j + 1, by omega, by go_num, HS2.out, HBA.out.2⟩
        case measure => (rw [hwj]; exact meas18 hlt)

end Go.Proofs.YtmfmlbiplagmiaaDoor
