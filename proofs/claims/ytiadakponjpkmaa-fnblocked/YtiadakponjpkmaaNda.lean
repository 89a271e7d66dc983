/- The program tells of Needed17 the fewest circuits that are enough; no condition. -/
import Derived.Test.YtiadakponjpkmaaBle
namespace Go.Proofs.Ytiadakponjpkmaa
open Go.RowKit Go.ChangeShapes Go.WideShapes Go.ChangeAt
set_option linter.unusedVariables false
set_option linter.unusedSimpArgs false
set_option maxRecDepth 8000

def ptB (pn pd : Int) : Bool := decide (0 ≤ pn ∧ pn ≤ 1000) && decide (1 ≤ pd ∧ pd ≤ 1000)
def ldB' (x y : Int) : Bool := decide (0 ≤ x ∧ x ≤ 20) && decide (1 ≤ y ∧ y ≤ 10)
def enB (X Y pn pd n : Nat) : Bool := decide ((blN X Y n).1 * pd ≤ pn * (blN X Y n).2)
def ndO (x y pn pd : Int) : Option Nat := if (ldB' x y && ptB pn pd) = true then (List.range 9).find? (enB x.toNat y.toNat pn.toNat pd.toNat) else none
def ndV : Option Nat → Int
  | none => -1
  | some n => n
theorem find_range {f : Nat → Bool} {n k : Nat} (h : n < k) (hf : f n = true) (hl : ∀ m, m < n → f m = false) : (List.range k).find? f = some n := by
  rw [List.find?_eq_some_iff_getElem]
  refine ⟨hf, n, by simpa using h, by simp, fun j hj => ?_⟩
  simp [hl j hj]
theorem find_none {f : Nat → Bool} {k : Nat} (hl : ∀ m, m < k → f m = false) : (List.range k).find? f = none := by
  rw [List.find?_eq_none]
  intro x hx
  simp at hx
  simp [hl x hx]
def NdR (x y pn pd : Int) (w : World) (e : Ending) (w' : World) : Prop := e = .returned (.tuple #[.int .i64 (ndV (ndO x y pn pd)), .bool (ndO x y pn pd).isSome]) ∧ Below w.heap.size w w'
theorem ndO_no {x y pn pd : Int} (h : ldB' x y = false ∨ ptB pn pd = false) : ndO x y pn pd = none := by
  unfold ndO
  rcases h with h | h <;> rw [h] <;> simp
theorem ndO_yes {x y pn pd : Int} (h : ldB' x y = true) (h' : ptB pn pd = true) : ndO x y pn pd = (List.range 9).find? (enB x.toNat y.toNat pn.toNat pd.toNat) := by
  unfold ndO; rw [h, h']; rfl
theorem en_bd {X Y n : Nat} (hx : X ≤ 20) (hy : 1 ≤ Y) (hy' : Y ≤ 10) (hn : n ≤ 8) : (blN X Y n).1 ≤ 181440000000000 ∧ (blN X Y n).2 ≤ 181440000000000 := by
  obtain ⟨h1, h2, h3⟩ := blN_bd hx hy hy' n
  have := bdN_le hn
  omega
theorem mul_bd {a b : Nat} (h : a ≤ 181440000000000) (h' : b ≤ 1000) : a * b ≤ 4611686018427387904 := Nat.le_trans (Nat.mul_le_mul h h') (by decide)
theorem mul_bd' {a b : Nat} (h : a ≤ 181440000000000) (h' : b ≤ 1000) : b * a ≤ 4611686018427387904 := Nat.le_trans (Nat.mul_le_mul h' h) (by decide)
/-- Blocking within, at numbers that may be -/
theorem blI_n {X Y n : Nat} (hx : X ≤ 20) (hy : 1 ≤ Y) (hy' : Y ≤ 10) (hn : n ≤ 8) (w : World) : Calls Try.prog 14 #[.int .i64 (n : Int), .int .i64 (X : Int), .int .i64 (Y : Int)] w fun e w' => e = .returned (.tuple #[.agg #[.int .i64 ((blN X Y n).1 : Int), .int .i64 ((blN X Y n).2 : Int)], .bool true]) ∧ Below w.heap.size w w' := by
  have h : blB n X Y = true := by unfold blB; simp only [Bool.and_eq_true, decide_eq_true_eq]; omega
  have := blI_c n X Y w
  unfold BlR at this
  rw [blR_yes h, h] at this
  simpa [rt] using this
theorem blM_n {X Y n : Nat} (hx : X ≤ 20) (hy : 1 ≤ Y) (hy' : Y ≤ 10) (hn : n ≤ 8) (w : World) : Calls Try.prog 15 #[.int .i64 (n : Int), .int .i64 (X : Int), .int .i64 (Y : Int)] w fun e w' => e = .returned (.tuple #[.agg #[.int .i64 ((blN X Y n).1 : Int), .int .i64 ((blN X Y n).2 : Int)], .bool true]) ∧ Below w.heap.size w w' := by
  have h : blB n X Y = true := by unfold blB; simp only [Bool.and_eq_true, decide_eq_true_eq]; omega
  have := blM_c n X Y w
  unfold BlR at this
  rw [blR_yes h, h] at this
  simpa [rt] using this
theorem blM_no {x y : Int} (h : ldB' x y = false) (w : World) : Calls Try.prog 15 #[.int .i64 0, .int .i64 x, .int .i64 y] w fun e w' => e = .returned (.tuple #[.agg #[.int .i64 0, .int .i64 0], .bool false]) ∧ Below w.heap.size w w' := by
  have h : blB 0 x y = false := by unfold blB; unfold ldB' at h; rw [h]; rfl
  have := blM_c 0 x y w
  unfold BlR at this
  rw [blR_no h, h] at this
  exact this
set_option maxHeartbeats 6400000 in
theorem ndI_c (x y pn pd : Int) (w : World) : Calls Try.prog 17 #[.int .i64 x, .int .i64 y, .agg #[.int .i64 pn, .int .i64 pd]] w (NdR x y pn pd w) := by
  have H0 : Hid (Blk (w.alloc (.cells #[.int .i64 pn, .int .i64 pd] 27)) w.heap.size #[.int .i64 pn, .int .i64 pd] 27 ∧ Below w.heap.size w (w.alloc (.cells #[.int .i64 pn, .int .i64 pd] 27))) := ⟨Blk.new _ _ _, (Below.refl _ _).alloc (Nat.le_refl _) _⟩
  have HNO : Hid (ldB' x y = false ∨ ptB pn pd = false → ∀ W, Below w.heap.size w W → NdR x y pn pd w (.returned (.tuple #[.int .i64 (-1), .bool false])) W) := fun h W hb => ⟨by rw [ndO_no h]; rfl, hb⟩
  go_enter Try.func17, Try.ntmps17
  go_wp2_with (fail)
  obtain ⟨W, hW⟩ : ∃ W, w.alloc (.cells #[.int .i64 pn, .int .i64 pd] 27) = W := ⟨_, rfl⟩
  rw [hW] at H0 ⊢
  obtain ⟨g, hg⟩ : ∃ g, w.heap.size = g := ⟨_, rfl⟩
  have HGE : Hid (w.heap.size = g) := hg
  have HSZ : Hid (g + 1 ≤ W.heap.size) := by show _ ≤ _; rw [← hW, ← hg]; simp
  rw [hg] at H0 HNO ⊢
  clear hW hg
  have c0 : W.cell? ⟨g, 0, none⟩ = some (.int .i64 pn) := H0.out.1.cell 0
  have c1 : W.cell? ⟨g, 1, none⟩ = some (.int .i64 pd) := H0.out.1.cell 1
  refine (load_c x y _).mono ?_
  rintro e w1 ⟨rfl, hw⟩
  rw [hw]
  clear hw w1
  have HE : Hid ((decide (0 ≤ x ∧ x ≤ 20) && decide (1 ≤ y ∧ y ≤ 10)) = ldB' x y) := rfl
  obtain ⟨B, hB⟩ : ∃ B, ldB' x y = B := ⟨_, rfl⟩
  have HB : Hid (ldB' x y = B) := hB
  rw [HE.out, hB]
  clear hB HE
  cases B with
  | false =>
    have HF : Hid (ldB' x y = false ∨ ptB pn pd = false) := .inl HB.out
    go_wp2
    go_ret2
    exact HNO.out HF.out _ H0.out.2
  | true =>
  go_wp2_with (fail)
  refine (within_c pn 0 1000 _).mono ?_
  rintro e w1 ⟨rfl, hw⟩
  rw [hw]
  clear hw w1
  by_cases h1 : 0 ≤ pn ∧ pn ≤ 1000
  case neg =>
    have HF : Hid (ldB' x y = false ∨ ptB pn pd = false) := .inr (by unfold ptB; rw [decide_eq_false h1]; rfl)
    rw [decide_eq_false h1]
    clear h1
    go_wp2
    go_ret2
    exact HNO.out HF.out _ H0.out.2
  rw [decide_eq_true h1]
  have H1 : Hid (0 ≤ pn ∧ pn ≤ 1000) := h1
  clear h1
  go_wp2_with (fail)
  refine (within_c pd 1 1000 _).mono ?_
  rintro e w1 ⟨rfl, hw⟩
  rw [hw]
  clear hw w1
  by_cases h2 : 1 ≤ pd ∧ pd ≤ 1000
  case neg =>
    have HF : Hid (ldB' x y = false ∨ ptB pn pd = false) := .inr (by unfold ptB; rw [decide_eq_false h2]; simp)
    rw [decide_eq_false h2]
    clear h2
    go_wp2
    go_ret2
    exact HNO.out HF.out _ H0.out.2
  rw [decide_eq_true h2]
  have h1 := H1.out
  have HT : Hid (ptB pn pd = true) := by show _ = _; unfold ptB; rw [decide_eq_true h1, decide_eq_true h2]; rfl
  have hb : (0 ≤ x ∧ x ≤ 20) ∧ (1 ≤ y ∧ y ≤ 10) := by have := HB.out; unfold ldB' at this; simpa only [Bool.and_eq_true, decide_eq_true_eq] using this
  obtain ⟨X, rfl⟩ : ∃ X : Nat, x = X := ⟨x.toNat, by omega⟩
  obtain ⟨Y, rfl⟩ : ∃ Y : Nat, y = Y := ⟨y.toNat, by omega⟩
  obtain ⟨a, rfl⟩ : ∃ a : Nat, pn = a := ⟨pn.toNat, by omega⟩
  obtain ⟨b, rfl⟩ : ∃ b : Nat, pd = b := ⟨pd.toNat, by omega⟩
  have HX : Hid (X ≤ 20 ∧ 1 ≤ Y ∧ Y ≤ 10 ∧ a ≤ 1000 ∧ b ≤ 1000) := ⟨by omega, by omega, by omega, by omega, by omega⟩
  have HO : Hid (ndO X Y a b = (List.range 9).find? (enB X Y a b)) := by show _ = _; rw [ndO_yes HB.out HT.out]; simp
  have HSOME : Hid (∀ n, n < 9 → enB X Y a b n = true → (∀ m, m < n → enB X Y a b m = false) → ∀ V, Below g w V → NdR X Y a b w (.returned (.tuple #[.int .i64 (n : Int), .bool true])) V) := fun n hn hf hl V hv => ⟨by rw [HO.out, find_range hn hf hl]; rfl, by rw [HGE.out]; exact hv⟩
  have HNONE : Hid ((∀ m, m < 9 → enB X Y a b m = false) → ∀ V, Below g w V → NdR X Y a b w (.returned (.tuple #[.int .i64 (-1), .bool false])) V) := fun hl V hv => ⟨by rw [HO.out, find_none hl]; rfl, by rw [HGE.out]; exact hv⟩
  have HI0 : Hid (Blk W g #[.int .i64 (a : Int), .int .i64 (b : Int)] 27 ∧ Below g w W) := H0
  clear h1 h2 hb H1 HT HB HNO H0 HO c0 c1
  go_wp2
  go_loopw [27] (fun i wr => ∃ n : Nat, n ≤ 9 ∧ i = .int .i64 n ∧ Hid (∀ m, m < n → enB X Y a b m = false) ∧ Hid (Blk wr g #[.int .i64 (a : Int), .int .i64 (b : Int)] 27 ∧ Below g w wr)) (fun i _ => 9 - (intOf i).toNat)
  case atStart => exact ⟨0, by omega, rfl, fun m hm => by omega, HI0⟩
  case round =>
    obtain ⟨n, hn, rfl, hA, hI⟩ := hrel
    clear HI0
    by_cases hlt : n < 9
    case neg =>
      obtain rfl : n = 9 := by omega
      clear hlt hn
      go_wp2
      go_ret2
      exact HNONE.out hA.out _ hI.out.2
    case pos =>
    have HCB : Hid (∀ W, Calls Try.prog 14 #[.int .i64 (n : Int), .int .i64 (X : Int), .int .i64 (Y : Int)] W fun e w' => e = .returned (.tuple #[.agg #[.int .i64 ((blN X Y n).1 : Int), .int .i64 ((blN X Y n).2 : Int)], .bool true]) ∧ Below W.heap.size W w') := fun W => by have := HX.out; exact blI_n (by omega) (by omega) (by omega) (by omega) W
    have HCA : Hid (∀ W, Calls Try.prog 56 #[.agg #[.int .i64 ((blN X Y n).1 : Int), .int .i64 ((blN X Y n).2 : Int)], .agg #[.int .i64 (a : Int), .int .i64 (b : Int)]] W fun e w' => e = .returned (.bool (enB X Y a b n)) ∧ Below W.heap.size W w') := fun W => by
      have hx := HX.out
      have := en_bd hx.1 hx.2.1 hx.2.2.1 (n := n) (by omega)
      exact atMost_c _ _ _ _ W (mul_bd this.1 hx.2.2.2.2) (mul_bd' this.2 hx.2.2.2.1)
    obtain ⟨E, hE⟩ : ∃ E, enB X Y a b n = E := ⟨_, rfl⟩
    have HEE : Hid (enB X Y a b n = E) := hE
    obtain ⟨P, hP⟩ : ∃ P, (blN X Y n).1 = P := ⟨_, rfl⟩
    obtain ⟨Q, hQ⟩ : ∃ Q, (blN X Y n).2 = Q := ⟨_, rfl⟩
    rw [hP, hQ] at HCA HCB
    rw [hE] at HCA
    clear hE hP hQ
    have hn9 : (n : Int) < 9 := by omega
    go_wp2_with (fail)
    refine (HCB.out _).mono ?_
    rintro e w1 ⟨rfl, bb⟩
    have hI1 : Hid (Blk (w1.alloc (.cells #[.int .i64 (P : Int), .int .i64 (Q : Int)] 27)) g #[.int .i64 (a : Int), .int .i64 (b : Int)] 27 ∧ Below g w (w1.alloc (.cells #[.int .i64 (P : Int), .int .i64 (Q : Int)] 27))) := ⟨(hI.out.1.below bb hI.out.1.lt).alloc _, (belowCall hI.out.2 bb (by have := hI.out.1.lt; omega)).alloc (by have := hI.out.1.lt; have := bb.size; omega) _⟩
    clear bb hI HCB
    have c0 : (w1.alloc (.cells #[.int .i64 (P : Int), .int .i64 (Q : Int)] 27)).cell? ⟨g, 0, none⟩ = some (.int .i64 (a : Int)) := hI1.out.1.cell 0
    have c1 : (w1.alloc (.cells #[.int .i64 (P : Int), .int .i64 (Q : Int)] 27)).cell? ⟨g, 1, none⟩ = some (.int .i64 (b : Int)) := hI1.out.1.cell 1
    go_wp2_with (fail)
    refine (HCA.out _).mono ?_
    rintro e w2 ⟨rfl, bb⟩
    have hI2 : Hid (Blk w2 g #[.int .i64 (a : Int), .int .i64 (b : Int)] 27 ∧ Below g w w2) := ⟨hI1.out.1.below bb hI1.out.1.lt, belowCall hI1.out.2 bb (by have := hI1.out.1.lt; omega)⟩
    clear bb hI1 HCA c0 c1
    cases E with
    | true =>
      go_wp2
      go_ret2
      exact HSOME.out n hlt HEE.out hA.out _ hI2.out.2
    | false =>
      have HA2 : Hid (∀ m, m < n + 1 → enB X Y a b m = false) := fun m hm => by
        rcases Nat.lt_or_ge m n with h | h
        · exact hA.out m h
        · obtain rfl : m = n := by omega
          exact HEE.out
      go_wp2
      go_roundw
      case rel => exact ⟨n + 1, by omega, by go_num, HA2.out, hI2.out⟩
      case measure => simp [intOf]; omega

end Go.Proofs.Ytiadakponjpkmaa
