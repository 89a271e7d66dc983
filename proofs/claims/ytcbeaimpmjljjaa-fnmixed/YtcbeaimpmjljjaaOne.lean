/- The contracts of OneCall, the model's and the program's; no condition. -/
import Derived.Test.YtcbeaimpmjljjaaOk
import Derived.LaidEqlPtr
namespace Go.Proofs.Ytcbeaimpmjljjaa
open Go.RowKit Go.ChangeShapes Go.WideShapes Go.ChangeAt
set_option linter.unusedVariables false
set_option linter.unusedSimpArgs false
set_option maxRecDepth 8000
/-- the numbers that the model's l2Find tells -/
def cidx (cs : Calls2) (l : Int) : Int := match callAt cs l with | some j => (j : Int) | none => -1
def lidx (cs : Calls2) (l : Int) : Int := match callAt cs l with | some j => plc (cs.getD j (false, [])).2 l | none => -1
theorem found_eq {cs : Calls2} {l i k : Int} (h : Found cs l i k) : i = cidx cs l ∧ k = lidx cs l := by
  rcases h with ⟨rfl, rfl, hn⟩ | ⟨a, b, rfl, rfl, ha, hb, he, hn, hb'⟩
  · have : callAt cs l = none := callAt_all fun t ht => by
      rw [plc, legAt_all fun b hb => hn t ht ht b hb]; decide
    simp [cidx, lidx, this]
  · have h1 : legAt cs[a].2 l = some b := legAt_take hb he hb'
    have h2 : callAt cs l = some a := callAt_take ha (by rw [plc, h1]; simp) fun t ht hta => by
      rw [plc, legAt_all fun b hb => hn t ht hta b hb]; decide
    simp [cidx, lidx, h2, List.getElem?_eq_getElem ha, plc, h1]
/-- both lines are in one call of a right panel -/
def OneP (n : Int) (cs : Calls2) (a b : Int) : Prop := POk n cs ∧ (callAt cs a).isSome = true ∧ callAt cs a = callAt cs b
theorem cidx_nonneg (cs : Calls2) (l : Int) : 0 ≤ cidx cs l ↔ (callAt cs l).isSome = true := by
  unfold cidx; cases callAt cs l <;> simp
theorem cidx_inj (cs : Calls2) (a b : Int) (h : 0 ≤ cidx cs a) : cidx cs a = cidx cs b ↔ callAt cs a = callAt cs b := by
  unfold cidx at *; cases ha : callAt cs a <;> cases hb : callAt cs b <;> simp [ha] at h ⊢
  omega
def OneR (n : Int) (cs : Calls2) (a b : Int) (w : World) (e : Ending) (w' : World) : Prop := ∃ r, e = .returned (.bool r) ∧ (r = true ↔ OneP n cs a b) ∧ Below w.heap.size w w'
theorem specOne_c (n : Int) (v : Value) (cs : Calls2) (a b : Int) (w : World) (h : RdC w v cs) :
   Calls Try.prog 46 #[.agg #[.int .i64 n, v], .int .i64 a, .int .i64 b] w (OneR n cs a b w) := by
  have hb : Below w.heap.size w (w.alloc (Obj.cells #[.int .i64 n, v] 26)) := (Below.refl _ _).alloc (Nat.le_refl _) _
  have H0 := h.below hb
  have HH : Hid (RdC (w.alloc (Obj.cells #[.int .i64 n, v] 26)) v cs) := H0
  have HB : Hid (Below w.heap.size w (w.alloc (Obj.cells #[.int .i64 n, v] 26))) := hb
  have HK : Hid (Blk (w.alloc (Obj.cells #[.int .i64 n, v] 26)) w.heap.size #[.int .i64 n, v] 26) := Blk.new _ _ _
  obtain ⟨lv, -, ⟨a0, cap, rfl, -⟩, -⟩ := h
  clear hb H0
  go_enter Try.func46, Try.ntmps46
  go_wp2_with (fail)
  refine (find_c n _ cs a _ HH.out).mono ?_
  rintro e w2 ⟨i, k, rfl, hf, b2⟩
  obtain ⟨rfl, rfl⟩ := found_eq hf
  have HB2 : Hid (Below w.heap.size w w2) := belowCall HB.out b2 HB.out.size
  have K2 := HK.out.below b2 (by simp)
  have HH2 : Hid (RdC w2 (.slice a0 lv.length cap) cs) := HH.out.below b2
  have c0 := K2.cell 0
  have c1 := K2.cell 1
  simp at c0 c1
  have HK2 : Hid (Blk w2 w.heap.size #[.int .i64 n, .slice a0 lv.length cap] 26) := K2
  clear hf b2 K2 HK HB HH
  go_wp2_with (fail)
  refine (find_c n _ cs b _ HH2.out).mono ?_
  rintro e w3 ⟨i, k, rfl, hf, b3⟩
  obtain ⟨rfl, rfl⟩ := found_eq hf
  have HB3 : Hid (Below w.heap.size w w3) := belowCall HB2.out b3 HB2.out.size
  have K3 := HK2.out.below b3 HK2.out.lt
  have HH3 : Hid (RdC w3 (.slice a0 lv.length cap) cs) := HH2.out.below b3
  clear c0 c1
  have c0 := K3.cell 0
  have c1 := K3.cell 1
  simp at c0 c1
  clear hf b3 K3 HK2 HB2 HH2
  go_wp2_with (fail)
  refine (ok_c n _ cs _ HH3.out).mono ?_
  rintro e w4 ⟨r, rfl, hr, b4⟩
  have HR : Hid (r = true ↔ POk n cs) := hr
  have HB4 : Hid (Below w.heap.size w w4) := belowCall HB3.out b4 HB3.out.size
  clear hr b4 HH3 HB3 c0 c1
  obtain ⟨x, hx⟩ : ∃ x, cidx cs a = x := ⟨_, rfl⟩
  obtain ⟨y, hy⟩ : ∃ y, cidx cs b = y := ⟨_, rfl⟩
  have HX : Hid (cidx cs a = x) := hx
  have HY : Hid (cidx cs b = y) := hy
  rw [hx, hy]
  clear hx hy
  have HF : Hid ((r && (decide (0 ≤ x) && decide (x = y))) = true ↔ OneP n cs a b) := by
    show (r && (decide (0 ≤ x) && decide (x = y))) = true ↔ OneP n cs a b
    simp only [Bool.and_eq_true, decide_eq_true_eq, HR.out, OneP]
    constructor
    · rintro ⟨h1, h2, h3⟩
      rw [← HX.out] at h2 h3
      rw [← HY.out] at h3
      exact ⟨h1, (cidx_nonneg cs a).1 h2, (cidx_inj cs a b h2).1 h3⟩
    · rintro ⟨h1, h2, h3⟩
      have h2' := (cidx_nonneg cs a).2 h2
      have h3' := (cidx_inj cs a b h2').2 h3
      rw [HX.out] at h2' h3'
      rw [HY.out] at h3'
      exact ⟨h1, h2', h3'⟩
  cases r
  · go_wp2
    go_ret
    exact ⟨_, rfl, ⟨fun h => by simp at h, fun h => by have := HF.out.2 h; simp at this⟩, HB4.out⟩
  · by_cases h1 : 0 ≤ x
    · by_cases h2 : x = y
      · have HG : Hid (OneP n cs a b) := HF.out.1 (by simp only [Bool.and_eq_true, decide_eq_true_eq]; exact ⟨trivial, h1, h2⟩)
        go_wp2
        go_ret
        exact ⟨_, rfl, ⟨fun _ => HG.out, fun _ => rfl⟩, HB4.out⟩
      · have HG : Hid (¬ OneP n cs a b) := fun h => h2 (by have := HF.out.2 h; simp only [Bool.and_eq_true, decide_eq_true_eq] at this; exact this.2.2)
        go_wp2
        go_ret
        exact ⟨_, rfl, ⟨fun h => absurd (by simpa using h) h2, fun h => absurd h HG.out⟩, HB4.out⟩
    · have HG : Hid (¬ OneP n cs a b) := fun h => h1 (by have := HF.out.2 h; simp only [Bool.and_eq_true, decide_eq_true_eq] at this; exact this.2.1)
      go_wp2
      go_ret
      exact ⟨_, rfl, ⟨fun h => absurd h (by simp; try omega), fun h => absurd h HG.out⟩, HB4.out⟩
theorem size125 : (Try.prog.info? 125).map (·.size) = some 2 := by kernel_rfl
theorem ptrEq {W : World} {p q : Nat} {c1 c2 : Array Value} {t1 t2 : TypeId} (h1 : Blk W p c1 t1) (h2 : Blk W q c2 t2) : (binOp .eql 95 (.pointer (some ⟨p, 0, none⟩)) (.pointer (some ⟨q, 0, none⟩))).run Try.prog W = .ok (.bool (decide (p = q))) W := by
  cases hi : Try.prog.info? 125 with
  | none => have := size125; rw [hi] at this; cases this
  | some i =>
    have hs : i.size ≠ 0 := by have := size125; rw [hi] at this; simp at this; omega
    by_cases hpq : p = q
    · subst hpq
      rw [run_eql_ptr_same W ⟨p, 0, none⟩ Try.underlying95 hi]; simp
    · rw [run_eql_ptr_other W Try.underlying95 hi hs (a := ⟨p, 0, none⟩) (b := ⟨q, 0, none⟩) (by simp [hpq]) h1 h2]; simp [hpq]
theorem Wr.callBlk {base : Nat} {ρ : Nat → Tag} {chs : List Nat} {w : World} {g : Nat} {ps : List Nat} {cs : Calls2} (h : Wr base ρ chs w g ps cs) {l : Int} {i : Nat} (hc : callAt cs l = some i) : ∃ (hi : i < ps.length) (hi' : i < cs.length), ps.getD i 0 = ps[i] ∧ WCall base ρ chs w ps[i] cs[i] := by
  have h1 : i < cs.length := by
    rw [callAt, List.findIdx?_eq_some_iff_getElem] at hc
    exact hc.1
  have h2 : i < ps.length := by have := h.len; omega
  exact ⟨h2, h1, by simp [List.getElem?_eq_getElem h2], h.call i h2 h1⟩
/-- what a right panel's lines are -/
theorem callAt_range {n : Int} {cs : Calls2} (h : POk n cs) {l : Int} (hl : (callAt cs l).isSome = true) : 0 ≤ l ∧ l < n := by
  cases hc : callAt cs l with
  | none => rw [hc] at hl; cases hl
  | some i => exact h.2.2.2.1 l (callAt_mem hc)
/-- the cell of a line's channel -/
theorem Wr.wireCell {base : Nat} {ρ : Nat → Tag} {chs : List Nat} {w : World} {g : Nat} {ps : List Nat} {cs : Calls2} (h : Wr base ρ chs w g ps cs) (hpos : 0 < chs.length) :
    ∃ bw cw, chs.length ≤ cw ∧ cw ≤ 2 ^ 63 - 1 ∧ g < w.heap.size ∧ bw < w.heap.size ∧ w.cell? ⟨g, 0, none⟩ = some (.slice (some ⟨bw, 0, none⟩) chs.length cw) ∧ ∀ L, L < chs.length → w.cell? ⟨bw, L, none⟩ = some (.chan (some (chs.getD L 0))) := by
  obtain ⟨wv, gm, cv, B0, -, -, R1, -⟩ := h.ex
  obtain ⟨aw, cw, rfl, w1, w2, w3⟩ := own_form R1
  rcases w3 with w3 | ⟨bw, rfl⟩
  · omega
  refine ⟨bw, cw, w1, w2, B0.lt, (World.ownsRow.lt R1 bw rfl).2, by have := B0.cell 0; simpa using this, fun L hL => ?_⟩
  rw [World.ownsRow.cellAt R1 L (by omega)]
  simp [List.getElem?_eq_getElem hL]
set_option maxHeartbeats 1600000 in
theorem one_c (n : Int) (v : Value) (cs : Calls2) (a b : Int) (w : World) (h : RdC w v cs) :
   Calls Try.prog 22 #[.agg #[.int .i64 n, v], .int .i64 a, .int .i64 b] w (OneR n cs a b w) := by
  have hb : Below w.heap.size w (w.alloc (Obj.cells #[.int .i64 n, v] 26)) := (Below.refl _ _).alloc (Nat.le_refl _) _
  have H : Hid (Calls Try.prog 54 #[.agg #[.int .i64 n, v]] (w.alloc (Obj.cells #[.int .i64 n, v] 26)) (WireR n cs (w.alloc (Obj.cells #[.int .i64 n, v] 26)))) := wireP_c n v cs _ (h.below hb)
  have HB : Hid (Below w.heap.size w (w.alloc (Obj.cells #[.int .i64 n, v] 26))) := hb
  obtain ⟨lv, -, ⟨a0, cap, rfl, -⟩, -⟩ := h
  clear hb
  go_enter Try.func22, Try.ntmps22
  go_wp2_with (fail)
  refine H.out.mono ?_
  rintro e w2 ⟨x, r, rfl, hr, b2, hw⟩
  have HR : Hid (r = true ↔ POk n cs) := hr
  have HB2 : Hid (Below w.heap.size w w2) := belowCall HB.out b2 HB.out.size
  have HW : Hid (r = true → ∃ g ρ chs ps, x = some ⟨g, 0, none⟩ ∧ Wr (w.alloc (Obj.cells #[.int .i64 n, .slice a0 lv.length cap] 26)).heap.size ρ chs w2 g ps cs ∧ (chs.length : Int) = n) := hw
  clear hr b2 hw H HB
  cases r with
  | false =>
    have HN : Hid (¬ OneP n cs a b) := fun h => by have := HR.out.2 h.1; cases this
    clear HR HW
    go_wp2
    go_ret
    exact ⟨_, rfl, ⟨fun h => by simp at h, fun h => absurd h HN.out⟩, HB2.out⟩
  | true =>
    obtain ⟨g, ρ, chs, ps, rfl, hWr, rfl⟩ := HW.out rfl
    have HP : Hid (POk chs.length cs) := HR.out.1 rfl
    have HWr : Hid (Wr (w.alloc (Obj.cells #[.int .i64 (chs.length : Int), .slice a0 lv.length cap] 26)).heap.size ρ chs w2 g ps cs) := hWr
    have hpos : 0 < chs.length := by have := HP.out.1; omega
    obtain ⟨bw, cw, q1, q2, q3, q4, q5, q6⟩ := hWr.wireCell hpos
    have HQ6 : Hid (∀ L, L < chs.length → w2.cell? ⟨bw, L, none⟩ = some (.chan (some (chs.getD L 0)))) := q6
    clear hWr q6 HR HW
    by_cases ha : 0 ≤ a ∧ a < (chs.length : Int)
    · by_cases hb : 0 ≤ b ∧ b < (chs.length : Int)
      · obtain ⟨A, rfl⟩ := Int.eq_ofNat_of_zero_le ha.1
        obtain ⟨B, rfl⟩ := Int.eq_ofNat_of_zero_le hb.1
        have hA : A < chs.length := by omega
        have hB : B < chs.length := by omega
        obtain ⟨qa, hqa⟩ : ∃ q, chs.getD A 0 = q := ⟨_, rfl⟩
        obtain ⟨qb, hqb⟩ : ∃ q, chs.getD B 0 = q := ⟨_, rfl⟩
        have da := HQ6.out A hA
        have db := HQ6.out B hB
        rw [hqa] at da
        rw [hqb] at db
        obtain ⟨ca, hca⟩ : ∃ c, callAt cs (A : Int) = c := ⟨_, rfl⟩
        obtain ⟨cb, hcb⟩ : ∃ c, callAt cs (B : Int) = c := ⟨_, rfl⟩
        have hda : decide (0 ≤ (A : Int) ∧ (A : Int) < chs.length) = true := by simp; omega
        have hdb : decide (0 ≤ (B : Int) ∧ (B : Int) < chs.length) = true := by simp; omega
        have HCA : Hid (callAt cs (A : Int) = ca ∧ callAt cs (B : Int) = cb) := ⟨hca, hcb⟩
        have HA : Hid (Calls Try.prog 64 #[ptr g, .chan (some qa)] w2 fun e w' => e = .returned (cptr ps ca) ∧ Below w2.heap.size w2 w') := by
          rw [← hqa, ← hca]; exact callOf_c HWr.out A ha
        have HBb : Hid (∀ W, Below w2.heap.size w2 W → Calls Try.prog 64 #[ptr g, .chan (some qb)] W fun e w' => e = .returned (cptr ps cb) ∧ Below W.heap.size W w') := fun W hW => by
          rw [← hqb, ← hcb]; exact callOf_c (HWr.out.below hW) B hb
        clear HQ6 hqa hqb hca hcb
        cases ca with
        | none =>
          have HN : Hid (¬ OneP chs.length cs A B) := fun h => by have := h.2.1; rw [HCA.out.1] at this; cases this
          have HA' : Hid (Calls Try.prog 64 #[ptr g, .chan (some qa)] w2 fun e w' => e = .returned (.pointer none) ∧ Below w2.heap.size w2 w') := HA.out
          clear HA HBb
          go_wp2_with (first | (go_at_call 63; refine (has_c HWr.out _).mono ?_; rintro e wx ⟨rfl, hwx⟩; rw [hwx]; clear hwx wx; first | rw [hda] | rw [hdb]) | (go_at_call 64; refine HA'.out.mono ?_; rintro e w3 ⟨rfl, b3⟩))
          go_ret
          exact ⟨_, rfl, ⟨fun h => by simp at h, fun h => absurd h HN.out⟩, belowCall HB2.out b3 HB2.out.size⟩
        | some i =>
          obtain ⟨i1, i2, i3, i4⟩ := HWr.out.callBlk HCA.out.1
          obtain ⟨x, hx⟩ : ∃ x, ps[i] = x := ⟨_, rfl⟩
          have HA' : Hid (Calls Try.prog 64 #[ptr g, .chan (some qa)] w2 fun e w' => e = .returned (.pointer (some ⟨x, 0, none⟩)) ∧ Below w2.heap.size w2 w') := by
            have := HA.out
            simp only [cptr, i3, hx] at this
            exact this
          have HX : Hid (WCall (w.alloc (Obj.cells #[.int .i64 (chs.length : Int), .slice a0 lv.length cap] 26)).heap.size ρ chs w2 x cs[i] ∧ ps[i] = x) := ⟨hx ▸ i4, hx⟩
          clear HA i4 hx i3
          cases cb with
          | none =>
            have HN : Hid (¬ OneP chs.length cs A B) := fun h => by have := h.2.2; rw [HCA.out.1, HCA.out.2] at this; cases this
            have HB' : Hid (∀ W, Below w2.heap.size w2 W → Calls Try.prog 64 #[ptr g, .chan (some qb)] W fun e w' => e = .returned (.pointer none) ∧ Below W.heap.size W w') := HBb.out
            clear HBb
            go_wp2_with (go_at_call 63; refine (has_c HWr.out _).mono ?_; rintro e wx ⟨rfl, hwx⟩; rw [hwx]; clear hwx wx; first | rw [hda] | rw [hdb])
            refine HA'.out.mono ?_
            rintro e w3 ⟨rfl, b3⟩
            have HB3 : Hid (Below w.heap.size w w3) := belowCall HB2.out b3 HB2.out.size
            have HP3 : Hid (Calls Try.prog 64 #[ptr g, .chan (some qb)] w3 fun e w' => e = .returned (.pointer none) ∧ Below w3.heap.size w3 w') := HB'.out w3 b3
            have x5 : w3.cell? ⟨g, 0, none⟩ = some (.slice (some ⟨bw, 0, none⟩) chs.length cw) := (b3.cell q3).trans q5
            have xb : w3.cell? ⟨bw, B, none⟩ = some (.chan (some qb)) := (b3.cell q4).trans db
            clear b3 q5 da db HB' HA'
            go_wp2_with (fail)
            refine HP3.out.mono ?_
            rintro e w4 ⟨rfl, b4⟩
            have HB4 : Hid (Below w.heap.size w w4) := belowCall HB3.out b4 HB3.out.size
            clear b4 HP3
            go_wp2
            go_ret
            exact ⟨_, rfl, ⟨fun h => by simp at h, fun h => absurd h HN.out⟩, HB4.out⟩
          | some j =>
            obtain ⟨j1, j2, j3, j4⟩ := HWr.out.callBlk HCA.out.2
            obtain ⟨y, hy⟩ : ∃ y, ps[j] = y := ⟨_, rfl⟩
            have HB' : Hid (∀ W, Below w2.heap.size w2 W → Calls Try.prog 64 #[ptr g, .chan (some qb)] W fun e w' => e = .returned (.pointer (some ⟨y, 0, none⟩)) ∧ Below W.heap.size W w') := by
              have := HBb.out
              simp only [cptr, j3, hy] at this
              exact this
            obtain ⟨lx, kx, -⟩ := HX.out.1
            obtain ⟨ly, ky, -⟩ := j4
            rw [hy] at ky
            have HKK : Hid (Blk w2 x #[.bool cs[i].1, lx] 125 ∧ Blk w2 y #[.bool cs[j].1, ly] 125) := ⟨kx, ky⟩
            have HF : Hid (decide (x = y) = true ↔ OneP chs.length cs A B) := by
              show decide (x = y) = true ↔ OneP chs.length cs A B
              rw [decide_eq_true_eq, OneP, HCA.out.1, HCA.out.2, ← HX.out.2, ← hy, List.getElem_inj HWr.out.nd]
              simp [HP.out]
            clear HBb kx ky hy j3
            go_wp2_with (go_at_call 63; refine (has_c HWr.out _).mono ?_; rintro e wx ⟨rfl, hwx⟩; rw [hwx]; clear hwx wx; first | rw [hda] | rw [hdb])
            refine HA'.out.mono ?_
            rintro e w3 ⟨rfl, b3⟩
            have HB3 : Hid (Below w.heap.size w w3) := belowCall HB2.out b3 HB2.out.size
            have HB23 : Hid (Below w2.heap.size w2 w3) := b3
            have HP3 : Hid (Calls Try.prog 64 #[ptr g, .chan (some qb)] w3 fun e w' => e = .returned (.pointer (some ⟨y, 0, none⟩)) ∧ Below w3.heap.size w3 w') := HB'.out w3 b3
            have x5 : w3.cell? ⟨g, 0, none⟩ = some (.slice (some ⟨bw, 0, none⟩) chs.length cw) := (b3.cell q3).trans q5
            have xb : w3.cell? ⟨bw, B, none⟩ = some (.chan (some qb)) := (b3.cell q4).trans db
            clear b3 q5 da db HB' HA'
            go_wp2_with (fail)
            refine HP3.out.mono ?_
            rintro e w4 ⟨rfl, b4⟩
            have HB4 : Hid (Below w.heap.size w w4) := belowCall HB3.out b4 HB3.out.size
            have heq := ptrEq ((HKK.out.1.below HB23.out HKK.out.1.lt).below b4 (Nat.lt_of_lt_of_le HKK.out.1.lt HB23.out.size)) ((HKK.out.2.below HB23.out HKK.out.2.lt).below b4 (Nat.lt_of_lt_of_le HKK.out.2.lt HB23.out.size))
            clear b4 HP3
            go_wp2
            go_ret
            exact ⟨_, rfl, HF.out, HB4.out⟩
      · have hdb : decide (0 ≤ b ∧ b < (chs.length : Int)) = false := by simp only [decide_eq_false_iff_not]; exact hb
        have hda : decide (0 ≤ a ∧ a < (chs.length : Int)) = true := by simp only [decide_eq_true_eq]; exact ha
        have HN : Hid (¬ OneP chs.length cs a b) := fun h => hb (callAt_range h.1 (h.2.2 ▸ h.2.1))
        clear ha hb HQ6
        go_wp2_with (go_at_call 63; refine (has_c HWr.out _).mono ?_; rintro e wx ⟨rfl, hwx⟩; rw [hwx]; clear hwx wx; first | rw [hda] | rw [hdb])
        go_ret
        exact ⟨_, rfl, ⟨fun h => by simp at h, fun h => absurd h HN.out⟩, HB2.out⟩
    · have hda : decide (0 ≤ a ∧ a < (chs.length : Int)) = false := by simp only [decide_eq_false_iff_not]; exact ha
      have HN : Hid (¬ OneP chs.length cs a b) := fun h => ha (callAt_range h.1 h.2.1)
      clear ha HQ6
      go_wp2_with (go_at_call 63; refine (has_c HWr.out _).mono ?_; rintro e wx ⟨rfl, hwx⟩; rw [hwx]; clear hwx wx; rw [hda])
      go_ret
      exact ⟨_, rfl, ⟨fun h => by simp at h, fun h => absurd h HN.out⟩, HB2.out⟩
end Go.Proofs.Ytcbeaimpmjljjaa
