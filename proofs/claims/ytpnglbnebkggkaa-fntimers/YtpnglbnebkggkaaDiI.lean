/- The program's choice of a rule; no condition. -/
import Derived.Test.YtpnglbnebkggkaaDiS
namespace Go.Proofs.Ytpnglbnebkggkaa
open Go.RowKit Go.ChangeShapes Go.WideShapes Go.ChangeAt
set_option linter.unusedVariables false
set_option linter.unusedSimpArgs false
set_option maxRecDepth 8000
/-- the size of the longest so far -/
def lgo (q : Rl → Bool) (ls : Rls) (j : Nat) : Nat := if lfi q ls j < 0 then 0 else psz ls (lfi q ls j)
theorem lgo_take {q : Rl → Bool} {ls : Rls} {j : Nat} (h : j < ls.length) (hp : 0 < ls[j].pre.size) (hg : lgo q ls j < ls[j].pre.size) (hq : q ls[j] = true) : lfi q ls (j + 1) = (j : Int) ∧ lgo q ls (j + 1) = ls[j].pre.size := by
  have e : lfi q ls (j + 1) = (j : Int) := by
    rw [lfi_succ h, hq, Bool.true_and, if_pos]
    by_cases h0 : lfi q ls j < 0
    · rw [decide_eq_true h0]; rfl
    · rw [lgo, if_neg h0] at hg
      rw [decide_eq_true hg, Bool.or_true]
  refine ⟨e, ?_⟩
  rw [lgo, e, if_neg (by omega), psz_at h]
theorem lgo_skip {q : Rl → Bool} {ls : Rls} {j : Nat} (h : j < ls.length) (hp : 0 < ls[j].pre.size) (hq : ¬ lgo q ls j < ls[j].pre.size ∨ q ls[j] = false) : lfi q ls (j + 1) = lfi q ls j ∧ lgo q ls (j + 1) = lgo q ls j := by
  have e : lfi q ls (j + 1) = lfi q ls j := by
    rw [lfi_succ h, if_neg]
    rcases hq with hq | hq
    · by_cases h0 : lfi q ls j < 0
      · rw [lgo, if_pos h0] at hq; omega
      · rw [lgo, if_neg h0] at hq
        rw [decide_eq_false h0, decide_eq_false hq]; simp
    · rw [hq]; simp
  exact ⟨e, by rw [lgo, lgo, e]⟩
def eqf (s : ByteArray) (r : Rl) : Bool := (r.ro == 0) && (decide (r.le ≤ (s.size : Int)) && decide ((s.size : Int) ≤ r.mo))
theorem clo58_c (r : Rl) (s : ByteArray) (B : Nat) (w : World) (hB : Blk w B #[.int .i64 (s.size : Int)] 3) : Calls Try.prog 58 #[.agg (R6 r), .pointer (some ⟨B, 0, none⟩)] w fun e w' => e = .returned (.bool (eqf s r)) ∧ Below w.heap.size w w' := by
  have HB : Hid (Below w.heap.size w (w.alloc (Obj.cells (R6 r) 31))) := (Below.refl _ _).alloc (Nat.le_refl _) _
  have hl := hB.lt
  have c0 := hB.cell 0
  simp at c0
  rw [eqf]
  by_cases h1 : r.ro = 0
  · have g1 : (r.ro == 0) = true := by simpa using h1
    by_cases h2 : r.le ≤ (s.size : Int)
    · have g2 : decide (r.le ≤ (s.size : Int)) = true := decide_eq_true h2
      rw [g1, g2, Bool.true_and, Bool.true_and]
      clear g2
      go_enter Try.func58, Try.ntmps58
      go_wp2
      go_ret
      exact ⟨rfl, HB.out⟩
    · have g2 : decide (r.le ≤ (s.size : Int)) = false := decide_eq_false h2
      rw [g1, g2, Bool.true_and, Bool.false_and]
      clear g2
      have h3 : (r.le ≤ (s.size : Int)) = False := eq_false h2
      go_enter Try.func58, Try.ntmps58
      go_wp2
      go_ret
      exact ⟨rfl, HB.out⟩
  · have g1 : (r.ro == 0) = false := by simpa using h1
    rw [g1, Bool.false_and]
    go_enter Try.func58, Try.ntmps58
    go_wp2
    go_ret
    exact ⟨rfl, HB.out⟩
theorem clo59_c (r : Rl) (w : World) : Calls Try.prog 59 #[.agg (R6 r)] w fun e w' => e = .returned (.bool true) ∧ Below w.heap.size w w' := by
  have HB : Hid (Below w.heap.size w (w.alloc (Obj.cells (R6 r) 31))) := (Below.refl _ _).alloc (Nat.le_refl _) _
  have HR : Hid (Below w.heap.size w w) := Below.refl _ _
  go_enter Try.func59, Try.ntmps59
  go_wp2
  go_ret
  first | exact ⟨rfl, HB.out⟩ | exact ⟨rfl, HR.out⟩
theorem clo71_c (r : Rl) (s : ByteArray) (B : Nat) (w : World) (hB : Blk w B #[.string s] 9) (hs : s.size ≤ 1048576) (hr : r.pre.size ≤ 1048576) : Calls Try.prog 71 #[.agg (R6 r), .pointer (some ⟨B, 0, none⟩)] w fun e w' => e = .returned (.bool (oB s r)) ∧ Below w.heap.size w w' := by
  have HB : Hid (Below w.heap.size w (w.alloc (Obj.cells (R6 r) 31))) := (Below.refl _ _).alloc (Nat.le_refl _) _
  have hl := hB.lt
  have c0 := hB.cell 0
  simp at c0
  rw [oB]
  by_cases h1 : (s.size : Int) < (r.pre.size : Int)
  · rw [decide_eq_true (show s.size < r.pre.size by omega), Bool.true_and]
    go_enter Try.func71, Try.ntmps71
    go_wp2_with (fail)
    refine (hasPrefix_c r.pre s _ hr hs).mono ?_
    rintro e w2 ⟨rfl, hw2⟩
    subst hw2
    go_wp2
    go_ret
    exact ⟨rfl, HB.out⟩
  · rw [decide_eq_false (show ¬ s.size < r.pre.size by omega), Bool.false_and]
    have h3 : ((s.size : Int) < (r.pre.size : Int)) = False := eq_false h1
    have h4 : (s.size < r.pre.size) = False := eq_false (by omega)
    clear h1
    go_enter Try.func71, Try.ntmps71
    go_wp2
    go_ret
    exact ⟨rfl, HB.out⟩
def LfR (q : Rl → Bool) (ls : Rls) (w : World) (e : Ending) (w' : World) : Prop := e = .returned (.int .i64 (lfi q ls ls.length)) ∧ Below w.heap.size w w'
set_option maxHeartbeats 6400000 in
theorem fit58_c (v : Value) (ls : Rls) (s : ByteArray) (B : Nat) (w : World) (h : Rr w v ls) (hB : Blk w B #[.int .i64 (s.size : Int)] 3) (hok : RsOk ls) (hs : s.size ≤ 1048576) :
   Calls Try.prog 57 #[v, .string s, .func (.func 58) #[] #[.pointer (some ⟨B, 0, none⟩)]] w (LfR (qF s) ls w) := by
  have HRR : Hid (Rr w v ls) := h
  obtain ⟨a, cap, rfl, h1, h2, h3⟩ := h
  unfold maxLen at h2
  have HK : Hid (Blk w B #[.int .i64 (s.size : Int)] 3) := hB
  clear hB
  have HOK : Hid (RsOk ls) := hok
  have H3 : Hid (ls = [] ∨ ∃ b off, a = some ⟨b, off, none⟩ ∧ ∀ i (h : i < ls.length), w.cell? ⟨b, off + i * 6, none⟩ = some (.string ls[i].pre) ∧ w.cell? ⟨b, off + i * 6 + 1, none⟩ = some (.int .i64 ls[i].le) ∧ w.cell? ⟨b, off + i * 6 + 2, none⟩ = some (.int .i64 ls[i].mo) ∧ w.cell? ⟨b, off + i * 6 + 3, none⟩ = some (.int .i64 ls[i].ro) ∧ w.cell? ⟨b, off + i * 6 + 4, none⟩ = some (.int .i64 ls[i].st) ∧ w.cell? ⟨b, off + i * 6 + 5, none⟩ = some (.string ls[i].ad)) := h3
  clear h3 hok
  go_enter Try.func57, Try.ntmps57
  go_wp2
  go_loopw [13, 7, 8] (fun i b l wr => ∃ j : Nat, j ≤ ls.length ∧ i = .int .i64 j ∧ b = .int .i64 (lfi (qF s) ls j) ∧ l = .int .i64 (lgo (qF s) ls j : Int) ∧ Hid (Below w.heap.size w wr)) (fun i _ _ _ => ls.length - (intOf i).toNat)
  case atStart => exact ⟨0, Nat.zero_le _, rfl, rfl, rfl, Below.refl _ _⟩
  case round =>
    obtain ⟨j, hj, rfl, rfl, rfl, BJ⟩ := hrel
    by_cases hlt : j < ls.length
    case neg =>
      obtain rfl : j = ls.length := by omega
      go_wp2
      go_ret
      exact ⟨rfl, BJ.out⟩
    case pos =>
    obtain ⟨b0, off, rfl, h4⟩ : ∃ b off, a = some ⟨b, off, none⟩ ∧ _ := by
      rcases H3.out with h | h
      · rw [h] at hlt; simp at hlt
      · exact h
    have hc := h4 j hlt
    have hcb : b0 < w.heap.size := block_lt_of_cell hc.1
    have hsz := (HOK.out.2 j hlt hlt).1.1
    have hps : 0 < ls[j].pre.size := hsz.2
    have hp20 := hsz.1.1
    clear hsz
    have HT : Hid (lgo (qF s) ls j < ls[j].pre.size → qF s ls[j] = true → lfi (qF s) ls (j + 1) = (j : Int) ∧ lgo (qF s) ls (j + 1) = ls[j].pre.size) := lgo_take hlt hps
    have HS : Hid (¬ lgo (qF s) ls j < ls[j].pre.size ∨ qF s ls[j] = false → lfi (qF s) ls (j + 1) = lfi (qF s) ls j ∧ lgo (qF s) ls (j + 1) = lgo (qF s) ls j) := lgo_skip hlt hps
    obtain ⟨r, hr⟩ : ∃ r, ls[j] = r := ⟨_, rfl⟩
    obtain ⟨g, hg⟩ : ∃ g, lgo (qF s) ls j = g := ⟨_, rfl⟩
    obtain ⟨f, hf⟩ : ∃ f, lfi (qF s) ls j = f := ⟨_, rfl⟩
    rw [hr] at hc hps hp20 HT HS
    rw [hg] at HT HS ⊢
    rw [hf] at HS ⊢
    have e0 := (BJ.out.cell (p := ⟨b0, off + j * 6, none⟩) hcb).trans hc.1
    have e1 := (BJ.out.cell (p := ⟨b0, off + j * 6 + 1, none⟩) hcb).trans hc.2.1
    have e2 := (BJ.out.cell (p := ⟨b0, off + j * 6 + 2, none⟩) hcb).trans hc.2.2.1
    have e3 := (BJ.out.cell (p := ⟨b0, off + j * 6 + 3, none⟩) hcb).trans hc.2.2.2.1
    have e4 := (BJ.out.cell (p := ⟨b0, off + j * 6 + 4, none⟩) hcb).trans hc.2.2.2.2.1
    have e5 := (BJ.out.cell (p := ⟨b0, off + j * 6 + 5, none⟩) hcb).trans hc.2.2.2.2.2
    clear h4 hc hr hg hf H3
    obtain ⟨W1, hW1⟩ : ∃ W1, wr.alloc (Obj.cells (R6 r) 31) = W1 := ⟨_, rfl⟩
    have bA : Below wr.heap.size wr W1 := hW1 ▸ (Below.refl _ _).alloc (Nat.le_refl _) _
    have B1 : Hid (Below w.heap.size w W1) := belowCall BJ.out bA BJ.out.size
    have K1 : Hid (Blk W1 wr.heap.size (R6 r) 31) := hW1 ▸ Blk.new _ _ _
    have HW1 : Hid (wr.alloc (Obj.cells (R6 r) 31) = W1) := hW1
    clear bA hW1
    by_cases hgl : (g : Int) < (r.pre.size : Int)
    case neg =>
      have HN : Hid (¬ g < r.pre.size) := fun h => hgl (by omega)
      have hg1 : ((g : Int) < (r.pre.size : Int)) = False := eq_false hgl
      have hg2 : (g < r.pre.size) = False := eq_false HN.out
      have HQ := HS.out (.inl HN.out)
      have HQ1 : Hid (lfi (qF s) ls (j + 1) = f) := HQ.1
      have HQ2 : Hid (lgo (qF s) ls (j + 1) = g) := HQ.2
      clear HQ hgl
      go_wp2
      rw [HW1.out]
      go_roundw
      case rel => exact ⟨j + 1, by omega, by go_num, by rw [HQ1.out], by rw [HQ2.out], B1.out⟩
      case measure => simp [intOf]; omega
    case pos =>
    have HG : Hid (g < r.pre.size) := by show g < r.pre.size; omega
    go_wp2_with (fail)
    rw [HW1.out]
    refine (hasPrefix_c s r.pre W1 hs (by omega)).mono ?_
    rintro e w2 ⟨rfl, hw2⟩
    obtain rfl : W1 = w2 := hw2.symm
    cases hbeg : begB s r.pre with
    | false =>
      have HQ := HS.out (.inr (by rw [qF, hbeg, Bool.false_and]))
      have HQ1 : Hid (lfi (qF s) ls (j + 1) = f) := HQ.1
      have HQ2 : Hid (lgo (qF s) ls (j + 1) = g) := HQ.2
      clear HQ
      go_wp2
      go_roundw
      case rel => exact ⟨j + 1, by omega, by go_num, by rw [HQ1.out], by rw [HQ2.out], B1.out⟩
      case measure => simp [intOf]; omega
    | true =>
    have c0 := K1.out.cell 0
    have c1 := K1.out.cell 1
    have c2 := K1.out.cell 2
    have c3 := K1.out.cell 3
    have c4 := K1.out.cell 4
    have c5 := K1.out.cell 5
    simp at c0 c1 c2 c3 c4 c5
    go_wp2_with (fail)
    refine (clo58_c r s B W1 (HK.out.below B1.out HK.out.lt)).mono ?_
    rintro e w3 ⟨rfl, b3⟩
    have B3 : Hid (Below w.heap.size w w3) := belowCall B1.out b3 B1.out.size
    have K3 : Hid (Blk w3 wr.heap.size (R6 r) 31) := K1.out.below b3 K1.out.lt
    clear b3 c0 c1 c2 c3 c4 c5
    cases hqe : eqf s r with
    | false =>
      have HQ := HS.out (.inr (by rw [qF, hbeg, Bool.true_and]; exact hqe))
      have HQ1 : Hid (lfi (qF s) ls (j + 1) = f) := HQ.1
      have HQ2 : Hid (lgo (qF s) ls (j + 1) = g) := HQ.2
      clear HQ
      go_wp2
      go_roundw
      case rel => exact ⟨j + 1, by omega, by go_num, by rw [HQ1.out], by rw [HQ2.out], B3.out⟩
      case measure => simp [intOf]; omega
    | true =>
      have HQ := HT.out HG.out (by rw [qF, hbeg, Bool.true_and]; exact hqe)
      have HQ1 : Hid (lfi (qF s) ls (j + 1) = (j : Int)) := HQ.1
      have HQ2 : Hid (lgo (qF s) ls (j + 1) = r.pre.size) := HQ.2
      clear HQ
      have c0 := K3.out.cell 0
      simp at c0
      have y0 : ∀ W : Ov w3, W.wd.cell? ⟨wr.heap.size, 0, none⟩ = some (.string r.pre) := ov_cell (K3.out.cell 0)
      have ne : Nonempty (Ov w3) := ⟨⟨_, Below.refl _ _⟩⟩
      go_wp2
      refine region_over (by kernel_rfl) (by kernel_rfl) ?_
      repeat (go_big_quiet_step (fail))
      refine wpQuiet_nil ?_
      rintro _ ⟨W, rfl⟩
      have B4 : Hid (Below w.heap.size w W.wd) := belowCall B3.out W.ok B3.out.size
      clear y0 ne c0
      go_wp2
      go_roundw
      case rel => exact ⟨j + 1, by omega, by go_num, by rw [HQ1.out], by rw [HQ2.out], B4.out⟩
      case measure => simp [intOf]; omega
set_option maxHeartbeats 6400000 in
theorem fit59_c (v : Value) (ls : Rls) (s : ByteArray) (w : World) (h : Rr w v ls) (hok : RsOk ls) (hs : s.size ≤ 1048576) :
   Calls Try.prog 57 #[v, .string s, .func (.func 59) #[] #[]] w (LfR (qB s) ls w) := by
  have HRR : Hid (Rr w v ls) := h
  obtain ⟨a, cap, rfl, h1, h2, h3⟩ := h
  unfold maxLen at h2
  
  have HOK : Hid (RsOk ls) := hok
  have H3 : Hid (ls = [] ∨ ∃ b off, a = some ⟨b, off, none⟩ ∧ ∀ i (h : i < ls.length), w.cell? ⟨b, off + i * 6, none⟩ = some (.string ls[i].pre) ∧ w.cell? ⟨b, off + i * 6 + 1, none⟩ = some (.int .i64 ls[i].le) ∧ w.cell? ⟨b, off + i * 6 + 2, none⟩ = some (.int .i64 ls[i].mo) ∧ w.cell? ⟨b, off + i * 6 + 3, none⟩ = some (.int .i64 ls[i].ro) ∧ w.cell? ⟨b, off + i * 6 + 4, none⟩ = some (.int .i64 ls[i].st) ∧ w.cell? ⟨b, off + i * 6 + 5, none⟩ = some (.string ls[i].ad)) := h3
  clear h3 hok
  go_enter Try.func57, Try.ntmps57
  go_wp2
  go_loopw [13, 7, 8] (fun i b l wr => ∃ j : Nat, j ≤ ls.length ∧ i = .int .i64 j ∧ b = .int .i64 (lfi (qB s) ls j) ∧ l = .int .i64 (lgo (qB s) ls j : Int) ∧ Hid (Below w.heap.size w wr)) (fun i _ _ _ => ls.length - (intOf i).toNat)
  case atStart => exact ⟨0, Nat.zero_le _, rfl, rfl, rfl, Below.refl _ _⟩
  case round =>
    obtain ⟨j, hj, rfl, rfl, rfl, BJ⟩ := hrel
    by_cases hlt : j < ls.length
    case neg =>
      obtain rfl : j = ls.length := by omega
      go_wp2
      go_ret
      exact ⟨rfl, BJ.out⟩
    case pos =>
    obtain ⟨b0, off, rfl, h4⟩ : ∃ b off, a = some ⟨b, off, none⟩ ∧ _ := by
      rcases H3.out with h | h
      · rw [h] at hlt; simp at hlt
      · exact h
    have hc := h4 j hlt
    have hcb : b0 < w.heap.size := block_lt_of_cell hc.1
    have hsz := (HOK.out.2 j hlt hlt).1.1
    have hps : 0 < ls[j].pre.size := hsz.2
    have hp20 := hsz.1.1
    clear hsz
    have HT : Hid (lgo (qB s) ls j < ls[j].pre.size → qB s ls[j] = true → lfi (qB s) ls (j + 1) = (j : Int) ∧ lgo (qB s) ls (j + 1) = ls[j].pre.size) := lgo_take hlt hps
    have HS : Hid (¬ lgo (qB s) ls j < ls[j].pre.size ∨ qB s ls[j] = false → lfi (qB s) ls (j + 1) = lfi (qB s) ls j ∧ lgo (qB s) ls (j + 1) = lgo (qB s) ls j) := lgo_skip hlt hps
    obtain ⟨r, hr⟩ : ∃ r, ls[j] = r := ⟨_, rfl⟩
    obtain ⟨g, hg⟩ : ∃ g, lgo (qB s) ls j = g := ⟨_, rfl⟩
    obtain ⟨f, hf⟩ : ∃ f, lfi (qB s) ls j = f := ⟨_, rfl⟩
    rw [hr] at hc hps hp20 HT HS
    rw [hg] at HT HS ⊢
    rw [hf] at HS ⊢
    have e0 := (BJ.out.cell (p := ⟨b0, off + j * 6, none⟩) hcb).trans hc.1
    have e1 := (BJ.out.cell (p := ⟨b0, off + j * 6 + 1, none⟩) hcb).trans hc.2.1
    have e2 := (BJ.out.cell (p := ⟨b0, off + j * 6 + 2, none⟩) hcb).trans hc.2.2.1
    have e3 := (BJ.out.cell (p := ⟨b0, off + j * 6 + 3, none⟩) hcb).trans hc.2.2.2.1
    have e4 := (BJ.out.cell (p := ⟨b0, off + j * 6 + 4, none⟩) hcb).trans hc.2.2.2.2.1
    have e5 := (BJ.out.cell (p := ⟨b0, off + j * 6 + 5, none⟩) hcb).trans hc.2.2.2.2.2
    clear h4 hc hr hg hf H3
    obtain ⟨W1, hW1⟩ : ∃ W1, wr.alloc (Obj.cells (R6 r) 31) = W1 := ⟨_, rfl⟩
    have bA : Below wr.heap.size wr W1 := hW1 ▸ (Below.refl _ _).alloc (Nat.le_refl _) _
    have B1 : Hid (Below w.heap.size w W1) := belowCall BJ.out bA BJ.out.size
    have K1 : Hid (Blk W1 wr.heap.size (R6 r) 31) := hW1 ▸ Blk.new _ _ _
    have HW1 : Hid (wr.alloc (Obj.cells (R6 r) 31) = W1) := hW1
    clear bA hW1
    by_cases hgl : (g : Int) < (r.pre.size : Int)
    case neg =>
      have HN : Hid (¬ g < r.pre.size) := fun h => hgl (by omega)
      have hg1 : ((g : Int) < (r.pre.size : Int)) = False := eq_false hgl
      have hg2 : (g < r.pre.size) = False := eq_false HN.out
      have HQ := HS.out (.inl HN.out)
      have HQ1 : Hid (lfi (qB s) ls (j + 1) = f) := HQ.1
      have HQ2 : Hid (lgo (qB s) ls (j + 1) = g) := HQ.2
      clear HQ hgl
      go_wp2
      rw [HW1.out]
      go_roundw
      case rel => exact ⟨j + 1, by omega, by go_num, by rw [HQ1.out], by rw [HQ2.out], B1.out⟩
      case measure => simp [intOf]; omega
    case pos =>
    have HG : Hid (g < r.pre.size) := by show g < r.pre.size; omega
    go_wp2_with (fail)
    rw [HW1.out]
    refine (hasPrefix_c s r.pre W1 hs (by omega)).mono ?_
    rintro e w2 ⟨rfl, hw2⟩
    obtain rfl : W1 = w2 := hw2.symm
    cases hbeg : begB s r.pre with
    | false =>
      have HQ := HS.out (.inr (by rw [qB, hbeg]))
      have HQ1 : Hid (lfi (qB s) ls (j + 1) = f) := HQ.1
      have HQ2 : Hid (lgo (qB s) ls (j + 1) = g) := HQ.2
      clear HQ
      go_wp2
      go_roundw
      case rel => exact ⟨j + 1, by omega, by go_num, by rw [HQ1.out], by rw [HQ2.out], B1.out⟩
      case measure => simp [intOf]; omega
    | true =>
    have c0 := K1.out.cell 0
    have c1 := K1.out.cell 1
    have c2 := K1.out.cell 2
    have c3 := K1.out.cell 3
    have c4 := K1.out.cell 4
    have c5 := K1.out.cell 5
    simp at c0 c1 c2 c3 c4 c5
    go_wp2_with (fail)
    refine (clo59_c r W1).mono ?_
    rintro e w3 ⟨rfl, b3⟩
    have B3 : Hid (Below w.heap.size w w3) := belowCall B1.out b3 B1.out.size
    have K3 : Hid (Blk w3 wr.heap.size (R6 r) 31) := K1.out.below b3 K1.out.lt
    clear b3 c0 c1 c2 c3 c4 c5
    have HQ := HT.out HG.out (by rw [qB, hbeg])
    have HQ1 : Hid (lfi (qB s) ls (j + 1) = (j : Int)) := HQ.1
    have HQ2 : Hid (lgo (qB s) ls (j + 1) = r.pre.size) := HQ.2
    clear HQ
    have c0 := K3.out.cell 0
    simp at c0
    have y0 : ∀ W : Ov w3, W.wd.cell? ⟨wr.heap.size, 0, none⟩ = some (.string r.pre) := ov_cell (K3.out.cell 0)
    have ne : Nonempty (Ov w3) := ⟨⟨_, Below.refl _ _⟩⟩
    go_wp2
    refine region_over (by kernel_rfl) (by kernel_rfl) ?_
    repeat (go_big_quiet_step (fail))
    refine wpQuiet_nil ?_
    rintro _ ⟨W, rfl⟩
    have B4 : Hid (Below w.heap.size w W.wd) := belowCall B3.out W.ok B3.out.size
    clear y0 ne c0
    go_wp2
    go_roundw
    case rel => exact ⟨j + 1, by omega, by go_num, by rw [HQ1.out], by rw [HQ2.out], B4.out⟩
    case measure => simp [intOf]; omega
def IxO (s : ByteArray) (ls : Rls) (w : World) (e : Ending) (w' : World) : Prop := ∃ r : Int, e = .returned (.int .i64 r) ∧ ((0 ≤ r ∧ ls.any (oB s) = true) ∨ (r = -1 ∧ ls.any (oB s) = false)) ∧ Below w.heap.size w w'
set_option maxHeartbeats 3200000 in
theorem indexO_c (v : Value) (ls : Rls) (s : ByteArray) (B : Nat) (w : World) (h : Rr w v ls) (hB : Blk w B #[.string s] 9) (hok : RsOk ls) (hs : s.size ≤ 1048576) :
   Calls Try.prog 66 #[v, .func (.func 71) #[] #[.pointer (some ⟨B, 0, none⟩)]] w (IxO s ls w) := by
  obtain ⟨a, cap, rfl, h1, h2, h3⟩ := h
  unfold maxLen at h2
  have HK : Hid (Blk w B #[.string s] 9) := hB
  have HOK : Hid (RsOk ls) := hok
  clear hB hok
  go_enter Try.func66, Try.ntmps66
  go_wp2
  go_loopw [8] (fun i wr => ∃ j : Nat, j ≤ ls.length ∧ i = .int .i64 j ∧ Hid (∀ t (ht : t < j) (h : t < ls.length), oB s ls[t] = false) ∧ Hid (Below w.heap.size w wr)) (fun i _ => ls.length - (intOf i).toNat)
  case atStart => exact ⟨0, Nat.zero_le _, rfl, fun t ht => by omega, Below.refl _ _⟩
  case round =>
    obtain ⟨j, hj, rfl, hA, hbr⟩ := hrel
    by_cases hlt : j < ls.length
    case neg =>
      obtain rfl : j = ls.length := by omega
      have HN : Hid (ls.any (oB s) = false) := by
        show ls.any (oB s) = false
        rw [List.any_eq_false]
        intro x hx
        obtain ⟨i, hi, rfl⟩ := List.mem_iff_getElem.1 hx
        rw [hA.out i hi hi]; simp
      clear h3
      go_wp2
      go_ret
      exact ⟨_, rfl, .inr ⟨rfl, HN.out⟩, hbr.out⟩
    case pos =>
    rcases h3 with h3 | ⟨b, off, rfl, h4⟩
    · subst h3; simp at hlt
    have hc := h4 j hlt
    have hcb : b < w.heap.size := block_lt_of_cell hc.1
    have hp20 := (HOK.out.2 j hlt hlt).1.1.1.1
    obtain ⟨r, hr⟩ : ∃ r, ls[j] = r := ⟨_, rfl⟩
    have HR : Hid (ls[j] = r) := hr
    rw [hr] at hc hp20
    have e0 := (hbr.out.cell (p := ⟨b, off + j * 6, none⟩) hcb).trans hc.1
    have e1 := (hbr.out.cell (p := ⟨b, off + j * 6 + 1, none⟩) hcb).trans hc.2.1
    have e2 := (hbr.out.cell (p := ⟨b, off + j * 6 + 2, none⟩) hcb).trans hc.2.2.1
    have e3 := (hbr.out.cell (p := ⟨b, off + j * 6 + 3, none⟩) hcb).trans hc.2.2.2.1
    have e4 := (hbr.out.cell (p := ⟨b, off + j * 6 + 4, none⟩) hcb).trans hc.2.2.2.2.1
    have e5 := (hbr.out.cell (p := ⟨b, off + j * 6 + 5, none⟩) hcb).trans hc.2.2.2.2.2
    clear h4 hc hr
    go_wp2_with (fail)
    refine (clo71_c r s B wr (HK.out.below hbr.out HK.out.lt) hs (by omega)).mono ?_
    rintro e w2 ⟨rfl, b2⟩
    have HB2 : Hid (Below w.heap.size w w2) := belowCall hbr.out b2 hbr.out.size
    clear b2
    cases ht : oB s r with
    | true =>
      have HF : Hid (ls.any (oB s) = true) := List.any_eq_true.2 ⟨ls[j], List.getElem_mem hlt, by rw [HR.out]; exact ht⟩
      clear ht
      go_wp2
      go_ret
      exact ⟨_, rfl, .inl ⟨by omega, HF.out⟩, HB2.out⟩
    | false =>
      have HF : Hid (∀ t (ht : t < j + 1) (h : t < ls.length), oB s ls[t] = false) := fun t htt h => by
        by_cases htj : t < j
        · exact hA.out t htj h
        · obtain rfl : t = j := by omega
          rw [HR.out]; exact ht
      clear ht
      go_wp2
      go_roundw
      case rel => exact ⟨j + 1, by omega, by go_num, HF.out, HB2.out⟩
      case measure => simp [intOf]; omega
def OpR (s : ByteArray) (ls : Rls) (w : World) (e : Ending) (w' : World) : Prop := e = .returned (.bool (ls.any (oB s))) ∧ Below w.heap.size w w'
theorem contains_c (v : Value) (ls : Rls) (s : ByteArray) (B : Nat) (w : World) (h : Rr w v ls) (hB : Blk w B #[.string s] 9) (hok : RsOk ls) (hs : s.size ≤ 1048576) :
   Calls Try.prog 70 #[v, .func (.func 71) #[] #[.pointer (some ⟨B, 0, none⟩)]] w (OpR s ls w) := by
  have HC : Hid (Calls Try.prog 66 #[v, .func (.func 71) #[] #[.pointer (some ⟨B, 0, none⟩)]] w (IxO s ls w)) := indexO_c v ls s B w h hB hok hs
  obtain ⟨a, cap, rfl, -⟩ := h
  clear hB hok
  go_enter Try.func70, Try.ntmps70
  go_wp2_with (fail)
  refine HC.out.mono ?_
  rintro e w2 ⟨r, rfl, hr, b2⟩
  have B2 : Hid (Below w.heap.size w w2) := b2
  clear b2
  rcases hr with ⟨hr, h9⟩ | ⟨rfl, h9⟩
  · have H9 : Hid (ls.any (oB s) = true) := h9
    clear h9
    go_wp2
    go_ret
    exact ⟨by rw [H9.out]; rfl, B2.out⟩
  · have H9 : Hid (ls.any (oB s) = false) := h9
    clear h9
    go_wp2
    go_ret
    exact ⟨by rw [H9.out]; rfl, B2.out⟩
theorem open_c (v : Value) (ls : Rls) (s : ByteArray) (w : World) (h : Rr w v ls) (hok : RsOk ls) (hs : s.size ≤ 1048576) : Calls Try.prog 60 #[v, .string s] w (OpR s ls w) := by
  obtain ⟨W1, hW1⟩ : ∃ W1, w.alloc (Obj.cells #[.string s] 9) = W1 := ⟨_, rfl⟩
  have b1 : Below w.heap.size w W1 := hW1 ▸ (Below.refl _ _).alloc (Nat.le_refl _) _
  have HC : Hid (Calls Try.prog 70 #[v, .func (.func 71) #[] #[.pointer (some ⟨w.heap.size, 0, none⟩)]] W1 (OpR s ls W1)) := contains_c v ls s w.heap.size W1 (h.below b1) (hW1 ▸ Blk.new _ _ _) hok hs
  have HB1 : Hid (Below w.heap.size w W1) := b1
  have HW1 : Hid (w.alloc (Obj.cells #[.string s] 9) = W1) := hW1
  obtain ⟨a, cap, rfl, -⟩ := h
  clear b1 hW1 hok
  go_enter Try.func60, Try.ntmps60
  go_wp2_with (fail)
  rw [HW1.out]
  refine HC.out.mono ?_
  rintro e w2 ⟨rfl, b2⟩
  have HF : Hid (Below w.heap.size w w2) := belowCall HB1.out b2 HB1.out.size
  clear b2
  go_wp2
  go_ret
  exact ⟨rfl, HF.out⟩
end Go.Proofs.Ytpnglbnebkggkaa
