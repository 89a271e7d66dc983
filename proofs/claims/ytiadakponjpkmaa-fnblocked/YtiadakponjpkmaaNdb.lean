/- The model tells of Needed17 the same; the law of Needed17; no condition. -/
import Derived.Test.YtiadakponjpkmaaNda
namespace Go.Proofs.Ytiadakponjpkmaa
open Go.RowKit Go.ChangeShapes Go.WideShapes Go.ChangeAt
set_option linter.unusedVariables false
set_option linter.unusedSimpArgs false
set_option maxRecDepth 8000

set_option maxHeartbeats 6400000 in
theorem ndM_c (x y pn pd : Int) (w : World) : Calls Try.prog 18 #[.int .i64 x, .int .i64 y, .agg #[.int .i64 pn, .int .i64 pd]] w (NdR x y pn pd w) := by
  have H0 : Hid (Blk (w.alloc (.cells #[.int .i64 pn, .int .i64 pd] 27)) w.heap.size #[.int .i64 pn, .int .i64 pd] 27 ∧ Below w.heap.size w (w.alloc (.cells #[.int .i64 pn, .int .i64 pd] 27))) := ⟨Blk.new _ _ _, (Below.refl _ _).alloc (Nat.le_refl _) _⟩
  have HNO : Hid (ldB' x y = false ∨ ptB pn pd = false → ∀ W, Below w.heap.size w W → NdR x y pn pd w (.returned (.tuple #[.int .i64 (-1), .bool false])) W) := fun h W hb => ⟨by rw [ndO_no h]; rfl, hb⟩
  go_enter Try.func18, Try.ntmps18
  go_wp2_with (fail)
  obtain ⟨W, hW⟩ : ∃ W, w.alloc (.cells #[.int .i64 pn, .int .i64 pd] 27) = W := ⟨_, rfl⟩
  rw [hW] at H0 ⊢
  obtain ⟨g, hg⟩ : ∃ g, w.heap.size = g := ⟨_, rfl⟩
  have HGE : Hid (w.heap.size = g) := hg
  have HSZ : Hid (g + 1 ≤ W.heap.size) := by show _ ≤ _; rw [← hW, ← hg]; simp
  rw [hg] at H0 HNO ⊢
  clear hW hg
  have c0 : W.cell? ⟨g, 0, none⟩ = some (.int .i64 pn) := H0.out.1.cell 0
  have c1 : W.cell? ⟨g, 1, none⟩ = some (.int .i64 pd) := H0.out.1.cell 1
  refine (in_c pn 0 1000 _).mono ?_
  rintro e w1 ⟨rfl, hw⟩
  rw [hw]
  clear hw w1
  by_cases h1 : 0 ≤ pn ∧ pn ≤ 1000
  case neg =>
    have HF : Hid (ldB' x y = false ∨ ptB pn pd = false) := .inr (by unfold ptB; rw [decide_eq_false h1]; rfl)
    rw [decide_eq_false h1]
    clear h1
    go_wp2
    go_ret2
    exact HNO.out HF.out _ H0.out.2
  rw [decide_eq_true h1]
  have H1 : Hid (0 ≤ pn ∧ pn ≤ 1000) := h1
  clear h1
  go_wp2_with (fail)
  refine (in_c pd 1 1000 _).mono ?_
  rintro e w1 ⟨rfl, hw⟩
  rw [hw]
  clear hw w1
  by_cases h2 : 1 ≤ pd ∧ pd ≤ 1000
  case neg =>
    have HF : Hid (ldB' x y = false ∨ ptB pn pd = false) := .inr (by unfold ptB; rw [decide_eq_false h2]; simp)
    rw [decide_eq_false h2]
    clear h2
    go_wp2
    go_ret2
    exact HNO.out HF.out _ H0.out.2
  rw [decide_eq_true h2]
  have h1 := H1.out
  have HT : Hid (ptB pn pd = true) := by show _ = _; unfold ptB; rw [decide_eq_true h1, decide_eq_true h2]; rfl
  obtain ⟨B, hB⟩ : ∃ B, ldB' x y = B := ⟨_, rfl⟩
  have HB : Hid (ldB' x y = B) := hB
  clear hB
  cases B with
  | false =>
    have HF : Hid (ldB' x y = false ∨ ptB pn pd = false) := .inl HB.out
    have HI0 : Hid (Blk W g #[.int .i64 pn, .int .i64 pd] 27 ∧ Below g w W) := H0
    clear h1 h2 H0 c0 c1
    go_wp2
    go_loopw [8] (fun i wr => i = .int .i64 0 ∧ Hid (Blk wr g #[.int .i64 pn, .int .i64 pd] 27 ∧ Below g w wr)) (fun i _ => 9 - (intOf i).toNat)
    case atStart => exact ⟨rfl, HI0⟩
    case round =>
      obtain ⟨rfl, hI⟩ := hrel
      clear HI0
      go_wp2_with (fail)
      refine (blM_no HB.out _).mono ?_
      rintro e w1 ⟨rfl, bb⟩
      have hI1 : Hid (Below g w (w1.alloc (.cells #[.int .i64 0, .int .i64 0] 27))) := (belowCall hI.out.2 bb (by have := hI.out.1.lt; omega)).alloc (by have := hI.out.1.lt; have := bb.size; omega) _
      clear bb hI
      go_wp2
      go_ret2
      exact HNO.out HF.out _ hI1.out
  | true =>
  have hb : (0 ≤ x ∧ x ≤ 20) ∧ (1 ≤ y ∧ y ≤ 10) := by have := HB.out; unfold ldB' at this; simpa only [Bool.and_eq_true, decide_eq_true_eq] using this
  obtain ⟨X, rfl⟩ : ∃ X : Nat, x = X := ⟨x.toNat, by omega⟩
  obtain ⟨Y, rfl⟩ : ∃ Y : Nat, y = Y := ⟨y.toNat, by omega⟩
  obtain ⟨a, rfl⟩ : ∃ a : Nat, pn = a := ⟨pn.toNat, by omega⟩
  obtain ⟨b, rfl⟩ : ∃ b : Nat, pd = b := ⟨pd.toNat, by omega⟩
  have HX : Hid (X ≤ 20 ∧ 1 ≤ Y ∧ Y ≤ 10 ∧ a ≤ 1000 ∧ b ≤ 1000) := ⟨by omega, by omega, by omega, by omega, by omega⟩
  have HO : Hid (ndO X Y a b = (List.range 9).find? (enB X Y a b)) := by show _ = _; rw [ndO_yes HB.out HT.out]; simp
  have HSOME : Hid (∀ n, n < 9 → enB X Y a b n = true → (∀ m, m < n → enB X Y a b m = false) → ∀ V, Below g w V → NdR X Y a b w (.returned (.tuple #[.int .i64 (n : Int), .bool true])) V) := fun n hn hf hl V hv => ⟨by rw [HO.out, find_range hn hf hl]; rfl, by rw [HGE.out]; exact hv⟩
  have HNONE : Hid ((∀ m, m < 9 → enB X Y a b m = false) → ∀ V, Below g w V → NdR X Y a b w (.returned (.tuple #[.int .i64 (-1), .bool false])) V) := fun hl V hv => ⟨by rw [HO.out, find_none hl]; rfl, by rw [HGE.out]; exact hv⟩
  have HI0 : Hid (Blk W g #[.int .i64 (a : Int), .int .i64 (b : Int)] 27 ∧ Below g w W) := H0
  clear h1 h2 hb H1 HT HB HNO H0 HO c0 c1
  go_wp2
  go_loopw [8] (fun i wr => ∃ n : Nat, n ≤ 9 ∧ i = .int .i64 n ∧ Hid (∀ m, m < n → enB X Y a b m = false) ∧ Hid (Blk wr g #[.int .i64 (a : Int), .int .i64 (b : Int)] 27 ∧ Below g w wr)) (fun i _ => 9 - (intOf i).toNat)
  case atStart => exact ⟨0, by omega, rfl, fun m hm => by omega, HI0⟩
  case round =>
    obtain ⟨n, hn, rfl, hA, hI⟩ := hrel
    clear HI0
    by_cases hlt : n < 9
    case neg =>
      obtain rfl : n = 9 := by omega
      clear hlt hn
      go_wp2
      go_ret2
      exact HNONE.out hA.out _ hI.out.2
    case pos =>
    have HCB : Hid (∀ W, Calls Try.prog 15 #[.int .i64 (n : Int), .int .i64 (X : Int), .int .i64 (Y : Int)] W fun e w' => e = .returned (.tuple #[.agg #[.int .i64 ((blN X Y n).1 : Int), .int .i64 ((blN X Y n).2 : Int)], .bool true]) ∧ Below W.heap.size W w') := fun W => by have := HX.out; exact blM_n (by omega) (by omega) (by omega) (by omega) W
    obtain ⟨p, hp⟩ : ∃ p, (blN X Y n).1 * b = p := ⟨_, rfl⟩
    obtain ⟨q, hq⟩ : ∃ q, a * (blN X Y n).2 = q := ⟨_, rfl⟩
    have HEE : Hid (enB X Y a b n = decide (p ≤ q)) := by show _ = _; unfold enB; rw [hp, hq]
    have hpb : p ≤ 4611686018427387904 := by rw [← hp]; have hx := HX.out; exact mul_bd (en_bd hx.1 hx.2.1 hx.2.2.1 (n := n) (by omega)).1 hx.2.2.2.2
    have hqb : q ≤ 4611686018427387904 := by rw [← hq]; have hx := HX.out; exact mul_bd' (en_bd hx.1 hx.2.1 hx.2.2.1 (n := n) (by omega)).2 hx.2.2.2.1
    obtain ⟨P, hP⟩ : ∃ P, (blN X Y n).1 = P := ⟨_, rfl⟩
    obtain ⟨Q, hQ⟩ : ∃ Q, (blN X Y n).2 = Q := ⟨_, rfl⟩
    rw [hP] at hp
    rw [hQ] at hq
    rw [hP, hQ] at HCB
    have hm1 : wrap64 ((P : Int) * (b : Int)) = (p : Int) := mulw hp hpb
    have hm2 : wrap64 ((a : Int) * (Q : Int)) = (q : Int) := mulw hq hqb
    clear hp hq hP hQ hpb hqb
    have hn9 : (n : Int) ≤ 8 := by omega
    go_wp2_with (fail)
    refine (HCB.out _).mono ?_
    rintro e w1 ⟨rfl, bb⟩
    have hI1 : Hid (Blk (w1.alloc (.cells #[.int .i64 (P : Int), .int .i64 (Q : Int)] 27)) g #[.int .i64 (a : Int), .int .i64 (b : Int)] 27 ∧ Below g w (w1.alloc (.cells #[.int .i64 (P : Int), .int .i64 (Q : Int)] 27))) := ⟨(hI.out.1.below bb hI.out.1.lt).alloc _, (belowCall hI.out.2 bb (by have := hI.out.1.lt; omega)).alloc (by have := hI.out.1.lt; have := bb.size; omega) _⟩
    clear bb hI HCB
    have c0 : (w1.alloc (.cells #[.int .i64 (P : Int), .int .i64 (Q : Int)] 27)).cell? ⟨g, 0, none⟩ = some (.int .i64 (a : Int)) := hI1.out.1.cell 0
    have c1 : (w1.alloc (.cells #[.int .i64 (P : Int), .int .i64 (Q : Int)] 27)).cell? ⟨g, 1, none⟩ = some (.int .i64 (b : Int)) := hI1.out.1.cell 1
    by_cases hle : p ≤ q
    case pos =>
      have HE2 : Hid (enB X Y a b n = true) := by show _ = _; rw [HEE.out, decide_eq_true hle]
      have hle' : (p : Int) ≤ (q : Int) := by omega
      clear hle
      go_wp2
      go_ret2
      exact HSOME.out n hlt HE2.out hA.out _ hI1.out.2
    case neg =>
      have HA2 : Hid (∀ m, m < n + 1 → enB X Y a b m = false) := fun m hm => by
        rcases Nat.lt_or_ge m n with h | h
        · exact hA.out m h
        · obtain rfl : m = n := by omega
          rw [HEE.out, decide_eq_false hle]
      have hle' : ¬ ((p : Int) ≤ (q : Int)) := by omega
      clear hle
      go_wp2
      go_roundw
      case rel => exact ⟨n + 1, by omega, by go_num, HA2.out, hI1.out⟩
      case measure => simp [intOf]; omega
set_option maxHeartbeats 1600000 in
theorem toF_c (a b : Int) (w : World) : Calls Try.prog 30 #[.agg #[.int .i64 a, .int .i64 b]] w fun e w' => e = .returned (.agg #[.int .i64 a, .int .i64 b]) ∧ Below w.heap.size w w' := by
  go_enter Try.func30, Try.ntmps30
  go_wp2
  have h1 : Blk ((((w.alloc (Obj.cells #[.int .i64 a, .int .i64 b] 56)).alloc (Obj.cells #[.int .i64 a, .int .i64 b] 27)).alloc (Obj.cells #[.int .i64 a, .int .i64 b] 27))) (w.heap.size + 1) #[.int .i64 a, .int .i64 b] 27 :=
    (Blk.newAt _ (w.heap.size + 1) _ 27 (by simp)).alloc _
  exact bodyPost_ret (v := .agg #[.int .i64 a, .int .i64 b]) (results_cell_row rfl _ _ _ 27 _ (0, 0) _ rfl h1 Try.underlying27 rfl szF) rfl ⟨rfl, (((Below.refl _ _).alloc (Nat.le_refl _) _).alloc (by simp) _).alloc (by simp; omega) _⟩
set_option maxHeartbeats 3200000 in
theorem neededLaw (x y a b : Int) (w : World) : Calls Try.prog 8 #[.int .i64 x, .int .i64 y, .agg #[.int .i64 a, .int .i64 b]] w fun e w' => e = .returned (.bool true) ∧ Below w.heap.size w w' := by
  obtain ⟨V, hV⟩ : ∃ V, ndV (ndO x y a b) = V := ⟨_, rfl⟩
  obtain ⟨T, hT⟩ : ∃ T, (ndO x y a b).isSome = T := ⟨_, rfl⟩
  have HCM : Hid (∀ W, Calls Try.prog 18 #[.int .i64 x, .int .i64 y, .agg #[.int .i64 a, .int .i64 b]] W fun e w' => e = .returned (.tuple #[.int .i64 V, .bool T]) ∧ Below W.heap.size W w') := fun W => by have := ndM_c x y a b W; unfold NdR at this; rw [hT, hV] at this; exact this
  have HCI : Hid (∀ W, Calls Try.prog 17 #[.int .i64 x, .int .i64 y, .agg #[.int .i64 a, .int .i64 b]] W fun e w' => e = .returned (.tuple #[.int .i64 V, .bool T]) ∧ Below W.heap.size W w') := fun W => by have := ndI_c x y a b W; unfold NdR at this; rw [hT, hV] at this; exact this
  clear hT hV
  have HK0 : Hid (Blk (w.alloc (.cells #[.int .i64 a, .int .i64 b] 56)) w.heap.size #[.int .i64 a, .int .i64 b] 56 ∧ Below w.heap.size w (w.alloc (.cells #[.int .i64 a, .int .i64 b] 56))) := ⟨Blk.new _ _ _, (Below.refl _ _).alloc (Nat.le_refl _) _⟩
  go_enter Try.func8, Try.ntmps8
  go_wp2_with (fail)
  refine (toF_c a b _).mono ?_
  rintro e w1 ⟨rfl, bb⟩
  have HK1 : Hid (Blk w1 w.heap.size #[.int .i64 a, .int .i64 b] 56 ∧ Below w.heap.size w w1) := ⟨HK0.out.1.below bb HK0.out.1.lt, belowCall HK0.out.2 bb HK0.out.2.size⟩
  clear bb HK0
  go_wp2_with (fail)
  refine (HCM.out _).mono ?_
  rintro e w2 ⟨rfl, bb⟩
  have HK2 : Hid (Blk w2 w.heap.size #[.int .i64 a, .int .i64 b] 56 ∧ Below w.heap.size w w2) := ⟨HK1.out.1.below bb HK1.out.1.lt, belowCall HK1.out.2 bb HK1.out.2.size⟩
  clear bb HK1 HCM
  have c0 : w2.cell? ⟨w.heap.size, 0, none⟩ = some (.int .i64 a) := HK2.out.1.cell 0
  have c1 : w2.cell? ⟨w.heap.size, 1, none⟩ = some (.int .i64 b) := HK2.out.1.cell 1
  go_wp2_with (fail)
  refine (toF_c a b _).mono ?_
  rintro e w3 ⟨rfl, bb⟩
  have HK3 : Hid (Below w.heap.size w w3) := belowCall HK2.out.2 bb HK2.out.2.size
  clear bb HK2 c0 c1
  go_wp2_with (fail)
  refine (HCI.out _).mono ?_
  rintro e w4 ⟨rfl, bb⟩
  have HK4 : Hid (Below w.heap.size w w4) := belowCall HK3.out bb HK3.out.size
  clear bb HK3 HCI
  have ht : (T != T) = false := by simp
  have hv : (V != V) = false := by simp
  go_wp2
  go_ret
  exact ⟨rfl, HK4.out⟩

end Go.Proofs.Ytiadakponjpkmaa
