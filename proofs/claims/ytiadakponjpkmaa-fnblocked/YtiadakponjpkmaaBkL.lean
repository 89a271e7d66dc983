/- The law of what is blocked; no condition. -/
import Derived.Test.YtiadakponjpkmaaBch
import Derived.Test.YtiadakponjpkmaaBdr
import Derived.Test.YtiadakponjpkmaaDra
namespace Go.Proofs.Ytiadakponjpkmaa
open Go.RowKit Go.ChangeShapes Go.WideShapes Go.ChangeAt
set_option linter.unusedVariables false
set_option linter.unusedSimpArgs false
set_option maxRecDepth 8000

theorem eqWrap {a b c d : Nat} (h : a * b = c * d) : wrap64 ((a : Int) * (b : Int)) = wrap64 ((c : Int) * (d : Int)) := by rw [← Int.natCast_mul, ← Int.natCast_mul, h]
set_option maxHeartbeats 12800000 in
/-- the part behind the draws of loads: Needed17 (regions from 18 on need only this) -/
theorem nd_facts (a b pn pd : Int) : (ndO a b pn pd = none) ∨ ∃ (k A B p q : Nat), ndO a b pn pd = some k ∧ a = A ∧ b = B ∧ pn = p ∧ pd = q ∧ A ≤ 20 ∧ 1 ≤ B ∧ B ≤ 10 ∧ p ≤ 1000 ∧ 1 ≤ q ∧ q ≤ 1000 ∧ k ≤ 8 ∧ (blN A B k).1 * q ≤ p * (blN A B k).2 ∧ ∀ m, m < k → p * (blN A B m).2 < (blN A B m).1 * q := by
  cases h : ndO a b pn pd with
  | none => exact .inl rfl
  | some k =>
    obtain ⟨h1, h2, h3, h4, h5, h6, h7⟩ := ndO_some h
    refine .inr ⟨k, a.toNat, b.toNat, pn.toNat, pd.toNat, rfl, by omega, by omega, by omega, by omega, by omega, by omega, by omega, by omega, by omega, by omega, h5, ?_, fun m hm => ?_⟩
    · unfold enB at h6; simpa using h6
    · have := h7 m hm
      unfold enB at this; simpa using this
set_option maxHeartbeats 25600000 in
theorem blockedLaw (v : Value) (code : List Int) (w : World) (h : Rd .u8 w v code) (hok : ∀ z ∈ code, (Lit.int .u8 z).wf = true) : Calls Try.prog 3 #[v] w fun e w' => e = .returned (.bool true) ∧ Below w.heap.size w w' := by
  have HR : Hid (Rd .u8 w v code) := h
  have HOK : Hid (∀ z ∈ code, 0 ≤ z ∧ z ≤ 255) := fun z hz => bounds_u8 (hok z hz)
  clear h hok
  go_enter Try.func3, Try.ntmps3
  go_wp2_with (fail)
  refine (big_c v code _ HR.out).mono ?_
  rintro e w0 ⟨rfl, hw⟩
  rw [hw]
  clear hw w0
  by_cases hbig : (1048576 : Int) < (code.length : Int)
  case pos =>
    rw [decide_eq_true hbig]
    clear hbig
    go_wp2
    go_ret
    exact ⟨rfl, Below.refl _ _⟩
  rw [decide_eq_false hbig]
  have HLN : Hid (code.length ≤ 2097152) := by show _ ≤ _; omega
  clear hbig
  go_wp2_with (fail)
  refine (drawBl_c v code _ HR.out HOK.out HLN.out).mono ?_
  rintro e w1 ⟨n, x, y, rfl, hn, hx, hy, b1⟩
  have HB1 : Hid (Below w.heap.size w w1) := b1
  have HNB : Hid (-1 ≤ n ∧ n ≤ 10) := hn
  clear b1 hx hy
  obtain ⟨T, hT⟩ : ∃ T, blB n x y = T := ⟨_, rfl⟩
  obtain ⟨P, hP⟩ : ∃ P, (blR n x y).1 = P := ⟨_, rfl⟩
  obtain ⟨Q, hQ⟩ : ∃ Q, (blR n x y).2 = Q := ⟨_, rfl⟩
  have HT : Hid (blB n x y = T ∧ (blR n x y).1 = P ∧ (blR n x y).2 = Q) := ⟨hT, hP, hQ⟩
  have HCM : Hid (∀ W, Calls Try.prog 15 #[.int .i64 n, .int .i64 x, .int .i64 y] W fun e w' => e = .returned (.tuple #[.agg #[.int .i64 (P : Int), .int .i64 (Q : Int)], .bool T]) ∧ Below W.heap.size W w') := fun W => by have := blM_c n x y W; unfold BlR rt at this; rw [hT, hP, hQ] at this; exact this
  have HCI : Hid (∀ W, Calls Try.prog 14 #[.int .i64 n, .int .i64 x, .int .i64 y] W fun e w' => e = .returned (.tuple #[.agg #[.int .i64 (P : Int), .int .i64 (Q : Int)], .bool T]) ∧ Below W.heap.size W w') := fun W => by have := blI_c n x y W; unfold BlR rt at this; rw [hT, hP, hQ] at this; exact this
  clear hT hP hQ hn
  go_wp2_with (fail)
  refine (HCI.out _).mono ?_
  rintro e w2 ⟨rfl, bb⟩
  have HB2 : Hid (Below w.heap.size w (w2.alloc (.cells #[.int .i64 (P : Int), .int .i64 (Q : Int)] 27))) := (belowCall HB1.out bb HB1.out.size).alloc (Nat.le_trans HB1.out.size bb.size) _
  have HK2 : Hid (Blk (w2.alloc (.cells #[.int .i64 (P : Int), .int .i64 (Q : Int)] 27)) w2.heap.size #[.int .i64 (P : Int), .int .i64 (Q : Int)] 27) := Blk.new _ _ _
  clear bb HB1 HCI
  go_wp2_with (fail)
  refine (HCM.out _).mono ?_
  rintro e w3 ⟨rfl, bb⟩
  have HB3 : Hid (Below w.heap.size w (w3.alloc (.cells #[.int .i64 (P : Int), .int .i64 (Q : Int)] 27))) := (belowCall HB2.out bb HB2.out.size).alloc (Nat.le_trans HB2.out.size bb.size) _
  have HK3 : Hid (Blk (w3.alloc (.cells #[.int .i64 (P : Int), .int .i64 (Q : Int)] 27)) w2.heap.size #[.int .i64 (P : Int), .int .i64 (Q : Int)] 27) := (HK2.out.below bb HK2.out.lt).alloc _
  have HM3 : Hid (Blk (w3.alloc (.cells #[.int .i64 (P : Int), .int .i64 (Q : Int)] 27)) w3.heap.size #[.int .i64 (P : Int), .int .i64 (Q : Int)] 27) := Blk.new _ _ _
  clear bb HB2 HK2 HCM
  obtain ⟨g, hg⟩ : ∃ g, w2.heap.size = g := ⟨_, rfl⟩
  rw [hg] at HK3 ⊢
  clear hg
  have c0 : (w3.alloc (.cells #[.int .i64 (P : Int), .int .i64 (Q : Int)] 27)).cell? ⟨g, 0, none⟩ = some (.int .i64 (P : Int)) := HK3.out.cell 0
  have c1 : (w3.alloc (.cells #[.int .i64 (P : Int), .int .i64 (Q : Int)] 27)).cell? ⟨g, 1, none⟩ = some (.int .i64 (Q : Int)) := HK3.out.cell 1
  have tt : (T != T) = false := by simp
  have HC1 : Hid (∀ W, Calls Try.prog 14 #[.int .i64 1, .int .i64 1, .int .i64 1] W fun e w' => e = .returned (.tuple #[.agg #[.int .i64 1, .int .i64 2], .bool true]) ∧ Below W.heap.size W w') := fun W => blI_c 1 1 1 W
  go_wp2_with (fail)
  obtain ⟨W3, hW3⟩ : ∃ W, w3.alloc (.cells #[.int .i64 (P : Int), .int .i64 (Q : Int)] 27) = W := ⟨_, rfl⟩
  rw [hW3] at HB3 HK3 ⊢
  clear hW3 c0 c1 HM3
  refine (HC1.out _).mono ?_
  rintro e w4 ⟨rfl, bb⟩
  have HB4 : Hid (Below w.heap.size w (w4.alloc (.cells #[.int .i64 1, .int .i64 2] 27))) := (belowCall HB3.out bb HB3.out.size).alloc (Nat.le_trans HB3.out.size bb.size) _
  have HK4 : Hid (Blk (w4.alloc (.cells #[.int .i64 1, .int .i64 2] 27)) g #[.int .i64 (P : Int), .int .i64 (Q : Int)] 27) := (HK3.out.below bb HK3.out.lt).alloc _
  clear bb HB3 HK3 HC1
  obtain ⟨T2, hT⟩ : ∃ T, blB (n + 1) x y = T := ⟨_, rfl⟩
  obtain ⟨P2, hP⟩ : ∃ P, (blR (n + 1) x y).1 = P := ⟨_, rfl⟩
  obtain ⟨Q2, hQ⟩ : ∃ Q, (blR (n + 1) x y).2 = Q := ⟨_, rfl⟩
  have HT2 : Hid (blB (n + 1) x y = T2 ∧ (blR (n + 1) x y).1 = P2 ∧ (blR (n + 1) x y).2 = Q2) := ⟨hT, hP, hQ⟩
  have HCI : Hid (∀ W, Calls Try.prog 14 #[.int .i64 (n + 1), .int .i64 x, .int .i64 y] W fun e w' => e = .returned (.tuple #[.agg #[.int .i64 (P2 : Int), .int .i64 (Q2 : Int)], .bool T2]) ∧ Below W.heap.size W w') := fun W => by have := blI_c (n + 1) x y W; unfold BlR rt at this; rw [hT, hP, hQ] at this; exact this
  clear hT hP hQ
  have hn1 : wrap64 (n + 1) = n + 1 := wrap64_in (by have := HNB.out; omega)
  go_wp2_with (fail)
  refine (HCI.out _).mono ?_
  rintro e w5 ⟨rfl, bb⟩
  have HB5 : Hid (Below w.heap.size w (w5.alloc (.cells #[.int .i64 (P2 : Int), .int .i64 (Q2 : Int)] 27))) := (belowCall HB4.out bb HB4.out.size).alloc (Nat.le_trans HB4.out.size bb.size) _
  have HK5 : Hid (Blk (w5.alloc (.cells #[.int .i64 (P2 : Int), .int .i64 (Q2 : Int)] 27)) g #[.int .i64 (P : Int), .int .i64 (Q : Int)] 27) := (HK4.out.below bb HK4.out.lt).alloc _
  have HM5 : Hid (Blk (w5.alloc (.cells #[.int .i64 (P2 : Int), .int .i64 (Q2 : Int)] 27)) w5.heap.size #[.int .i64 (P2 : Int), .int .i64 (Q2 : Int)] 27) := Blk.new _ _ _
  have HG5 : Hid (g < w5.heap.size) := Nat.lt_of_lt_of_le HK4.out.lt bb.size
  clear bb HB4 HK4 HCI
  have c0 : (w5.alloc (.cells #[.int .i64 (P2 : Int), .int .i64 (Q2 : Int)] 27)).cell? ⟨g, 0, none⟩ = some (.int .i64 (P : Int)) := HK5.out.cell 0
  have c1 : (w5.alloc (.cells #[.int .i64 (P2 : Int), .int .i64 (Q2 : Int)] 27)).cell? ⟨g, 1, none⟩ = some (.int .i64 (Q : Int)) := HK5.out.cell 1
  have d0 : (w5.alloc (.cells #[.int .i64 (P2 : Int), .int .i64 (Q2 : Int)] 27)).cell? ⟨w5.heap.size, 0, none⟩ = some (.int .i64 (P2 : Int)) := HM5.out.cell 0
  have d1 : (w5.alloc (.cells #[.int .i64 (P2 : Int), .int .i64 (Q2 : Int)] 27)).cell? ⟨w5.heap.size, 1, none⟩ = some (.int .i64 (Q2 : Int)) := HM5.out.cell 1
  have HS5 : Hid (w5.alloc (.cells #[.int .i64 (P2 : Int), .int .i64 (Q2 : Int)] 27) = w5.alloc (.cells #[.int .i64 (P2 : Int), .int .i64 (Q2 : Int)] 27)) := rfl
  cases T with
  | false =>
    clear c0 c1 d0 d1 HK5 HM5 tt hn1
    have HRD : Hid (Rd .u8 (w5.alloc (.cells #[.int .i64 (P2 : Int), .int .i64 (Q2 : Int)] 27)) v code) := HR.out.below HB5.out
    go_wp2_with (fail)
    refine (drawNd_c v code _ HRD.out HOK.out HLN.out).mono ?_
    rintro e w6 ⟨a, b, pn, pd, rfl, bb⟩
    have HB6 : Hid (Below w.heap.size w (w6.alloc (.cells #[.int .i64 pn, .int .i64 pd] 27))) := (belowCall HB5.out bb HB5.out.size).alloc (Nat.le_trans HB5.out.size bb.size) _
    have HK6 : Hid (Blk (w6.alloc (.cells #[.int .i64 pn, .int .i64 pd] 27)) w6.heap.size #[.int .i64 pn, .int .i64 pd] 27) := Blk.new _ _ _
    clear bb HB5 HRD
    obtain ⟨V, hV⟩ : ∃ V, ndV (ndO a b pn pd) = V := ⟨_, rfl⟩
    obtain ⟨U, hU⟩ : ∃ T, (ndO a b pn pd).isSome = T := ⟨_, rfl⟩
    have HU : Hid (ndV (ndO a b pn pd) = V ∧ (ndO a b pn pd).isSome = U) := ⟨hV, hU⟩
    have HCM : Hid (∀ W, Calls Try.prog 18 #[.int .i64 a, .int .i64 b, .agg #[.int .i64 pn, .int .i64 pd]] W fun e w' => e = .returned (.tuple #[.int .i64 V, .bool U]) ∧ Below W.heap.size W w') := fun W => by have := ndM_c a b pn pd W; unfold NdR at this; rw [hU, hV] at this; exact this
    have HCI : Hid (∀ W, Calls Try.prog 17 #[.int .i64 a, .int .i64 b, .agg #[.int .i64 pn, .int .i64 pd]] W fun e w' => e = .returned (.tuple #[.int .i64 V, .bool U]) ∧ Below W.heap.size W w') := fun W => by have := ndI_c a b pn pd W; unfold NdR at this; rw [hU, hV] at this; exact this
    clear hV hU
    go_wp2_with (fail)
    refine (HCI.out _).mono ?_
    rintro e w7 ⟨rfl, bb⟩
    obtain ⟨k6, hk6⟩ : ∃ k, w6.heap.size = k := ⟨_, rfl⟩
    have HB7 : Hid (Below w.heap.size w w7) := belowCall HB6.out bb HB6.out.size
    have HK7 : Hid (Blk w7 k6 #[.int .i64 pn, .int .i64 pd] 27) := by rw [← hk6]; exact HK6.out.below bb HK6.out.lt
    rw [hk6]
    clear bb HB6 HK6 hk6 HCI
    have c0 : w7.cell? ⟨k6, 0, none⟩ = some (.int .i64 pn) := HK7.out.cell 0
    have c1 : w7.cell? ⟨k6, 1, none⟩ = some (.int .i64 pd) := HK7.out.cell 1
    go_wp2_with (fail)
    refine (HCM.out _).mono ?_
    rintro e w8 ⟨rfl, bb⟩
    have HB8 : Hid (Below w.heap.size w w8) := belowCall HB7.out bb HB7.out.size
    have HK8 : Hid (Blk w8 k6 #[.int .i64 pn, .int .i64 pd] 27) := HK7.out.below bb HK7.out.lt
    clear bb HB7 HK7 HCM c0 c1
    have uu : (U != U) = false := by simp
    rcases nd_facts a b pn pd with hno | ⟨k, A, B, p', q', hso, rfl, rfl, rfl, rfl, hA, hB, hB', hp', hq', hq'', hk, hen, hle⟩
    · have hU0 : U = false := by rw [← HU.out.2, hno]; rfl
      have hV0 : V = -1 := by rw [← HU.out.1, hno]; rfl
      subst hU0 hV0
      clear hno uu
      go_wp2
      go_ret
      exact ⟨rfl, HB8.out⟩
    have hU0 : U = true := by rw [← HU.out.2, hso]; rfl
    have hV0 : V = (k : Int) := by rw [← HU.out.1, hso]; rfl
    subst hU0 hV0
    have HC1 : Hid (∀ W, Calls Try.prog 14 #[.int .i64 (k : Int), .int .i64 (A : Int), .int .i64 (B : Int)] W fun e w' => e = .returned (.tuple #[.agg #[.int .i64 ((blN A B k).1 : Int), .int .i64 ((blN A B k).2 : Int)], .bool true]) ∧ Below W.heap.size W w') := fun W => blI_n hA hB hB' hk W
    have HBD : Hid (∀ m : Nat, m ≤ 8 → (blN A B m).1 * q' ≤ 4611686018427387904 ∧ p' * (blN A B m).2 ≤ 4611686018427387904) := fun m hm => ⟨mul_bd (en_bd hA hB hB' hm).1 hq'', mul_bd' (en_bd hA hB hB' hm).2 hp'⟩
    have HLE : Hid (∀ m, m < k → p' * (blN A B m).2 < (blN A B m).1 * q') := hle
    have HCN : Hid (∀ m : Nat, m ≤ 8 → ∀ W, Calls Try.prog 14 #[.int .i64 (m : Int), .int .i64 (A : Int), .int .i64 (B : Int)] W fun e w' => e = .returned (.tuple #[.agg #[.int .i64 ((blN A B m).1 : Int), .int .i64 ((blN A B m).2 : Int)], .bool true]) ∧ Below W.heap.size W w') := fun m hm W => blI_n hA hB hB' hm W
    have HKB : Hid (k ≤ 8) := hk
    obtain ⟨P9, hP9⟩ : ∃ P, (blN A B k).1 = P := ⟨_, rfl⟩
    obtain ⟨Q9, hQ9⟩ : ∃ P, (blN A B k).2 = P := ⟨_, rfl⟩
    obtain ⟨s1, hs1⟩ : ∃ s, P9 * q' = s := ⟨_, rfl⟩
    obtain ⟨s2, hs2⟩ : ∃ s, p' * Q9 = s := ⟨_, rfl⟩
    have hbd := HBD.out k hk
    rw [hP9, hQ9] at HC1 hen hbd
    rw [hs1, hs2] at hen hbd
    have hw1 : wrap64 ((P9 : Int) * (q' : Int)) = (s1 : Int) := mulw hs1 hbd.1
    have hw2 : wrap64 ((p' : Int) * (Q9 : Int)) = (s2 : Int) := mulw hs2 hbd.2
    have hnl : ¬ ((s2 : Int) < (s1 : Int)) := Int.not_lt.2 (Int.ofNat_le.2 hen)
    clear hso uu hA hB hB' hp' hq' hq'' hk hle hen hbd hs1 hs2 hP9 hQ9
    go_wp2_with (fail)
    refine (HC1.out _).mono ?_
    rintro e w9 ⟨rfl, bb⟩
    have HB9 : Hid (Below w.heap.size w (w9.alloc (.cells #[.int .i64 (P9 : Int), .int .i64 (Q9 : Int)] 27))) := (belowCall HB8.out bb HB8.out.size).alloc (Nat.le_trans HB8.out.size bb.size) _
    have HK9 : Hid (Blk (w9.alloc (.cells #[.int .i64 (P9 : Int), .int .i64 (Q9 : Int)] 27)) k6 #[.int .i64 (p' : Int), .int .i64 (q' : Int)] 27) := (HK8.out.below bb HK8.out.lt).alloc _
    have HM9 : Hid (Blk (w9.alloc (.cells #[.int .i64 (P9 : Int), .int .i64 (Q9 : Int)] 27)) w9.heap.size #[.int .i64 (P9 : Int), .int .i64 (Q9 : Int)] 27) := Blk.new _ _ _
    clear bb HB8 HK8 HC1
    have c0 : (w9.alloc (.cells #[.int .i64 (P9 : Int), .int .i64 (Q9 : Int)] 27)).cell? ⟨k6, 0, none⟩ = some (.int .i64 (p' : Int)) := HK9.out.cell 0
    have c1 : (w9.alloc (.cells #[.int .i64 (P9 : Int), .int .i64 (Q9 : Int)] 27)).cell? ⟨k6, 1, none⟩ = some (.int .i64 (q' : Int)) := HK9.out.cell 1
    have d0 : (w9.alloc (.cells #[.int .i64 (P9 : Int), .int .i64 (Q9 : Int)] 27)).cell? ⟨w9.heap.size, 0, none⟩ = some (.int .i64 (P9 : Int)) := HM9.out.cell 0
    have d1 : (w9.alloc (.cells #[.int .i64 (P9 : Int), .int .i64 (Q9 : Int)] 27)).cell? ⟨w9.heap.size, 1, none⟩ = some (.int .i64 (Q9 : Int)) := HM9.out.cell 1
    have hk8 := HKB.out
    have hkw : wrap64 ((k : Int) - 1) = (k : Int) - 1 := wrap64_in (by clear hw1 hw2 hnl; omega)
    by_cases hk0 : k = 0
    · subst hk0
      have HCZ : Hid (∀ W, Calls Try.prog 14 #[.int .i64 (-1), .int .i64 (A : Int), .int .i64 (B : Int)] W fun e w' => e = .returned (.tuple #[.agg #[.int .i64 0, .int .i64 0], .bool false]) ∧ Below W.heap.size W w') := fun W => by
        have h0 : blB (-1) A B = false := by unfold blB; simp
        have := blI_c (-1) A B W
        unfold BlR at this
        rw [blR_no h0, h0] at this; exact this
      go_wp2_with (fail)
      refine (HCZ.out _).mono ?_
      rintro e w10 ⟨rfl, bb⟩
      have HB10 : Hid (Below w.heap.size w (w10.alloc (.cells #[.int .i64 0, .int .i64 0] 27))) := (belowCall HB9.out bb HB9.out.size).alloc (Nat.le_trans HB9.out.size bb.size) _
      clear bb HB9 HK9 HM9 c0 c1 d0 d1
      go_wp2
      go_ret
      exact ⟨rfl, HB10.out⟩
    obtain ⟨m, rfl⟩ : ∃ m, k = m + 1 := ⟨k - 1, by omega⟩
    have HCN' : Hid (∀ W, Calls Try.prog 14 #[.int .i64 (m : Int), .int .i64 (A : Int), .int .i64 (B : Int)] W fun e w' => e = .returned (.tuple #[.agg #[.int .i64 ((blN A B m).1 : Int), .int .i64 ((blN A B m).2 : Int)], .bool true]) ∧ Below W.heap.size W w') := HCN.out m (by clear hw1 hw2 hnl; omega)
    obtain ⟨P8, hP8⟩ : ∃ P, (blN A B m).1 = P := ⟨_, rfl⟩
    obtain ⟨Q8, hQ8⟩ : ∃ P, (blN A B m).2 = P := ⟨_, rfl⟩
    have hlt := HLE.out m (Nat.lt_succ_self m)
    have hbd := HBD.out m (by clear hw1 hw2 hnl; omega)
    rw [hP8, hQ8] at HCN' hlt hbd
    obtain ⟨u1, hu1⟩ : ∃ s, P8 * q' = s := ⟨_, rfl⟩
    obtain ⟨u2, hu2⟩ : ∃ s, p' * Q8 = s := ⟨_, rfl⟩
    rw [hu1, hu2] at hlt hbd
    have hw3 : wrap64 ((P8 : Int) * (q' : Int)) = (u1 : Int) := mulw hu1 hbd.1
    have hw4 : wrap64 ((p' : Int) * (Q8 : Int)) = (u2 : Int) := mulw hu2 hbd.2
    have hlt' : ((u2 : Int) < (u1 : Int)) := Int.ofNat_lt.2 hlt
    have hm1' : (0 : Int) < (m : Int) + 1 := by clear hw3 hw4 hlt' hlt hbd hw1 hw2 hnl; omega
    have hm2' : ((m : Int) + 1 == 0) = false := by clear hw3 hw4 hlt' hlt hbd hw1 hw2 hnl; simp; omega
    have hm3' : ¬ ((m : Int) + 1 = 0) := by clear hw3 hw4 hlt' hlt hbd hw1 hw2 hnl; omega
    have hke : wrap64 (((m : Int) + 1) - 1) = (m : Int) := by clear hw3 hw4 hlt' hlt hbd hw1 hw2 hnl; rw [wrap64_in (by omega)]; omega
    clear hu1 hu2 hbd hlt hP8 hQ8 hk0 hkw HCN HLE HBD
    go_wp2_with (fail)
    refine (HCN'.out _).mono ?_
    rintro e w10 ⟨rfl, bb⟩
    have HB10 : Hid (Below w.heap.size w (w10.alloc (.cells #[.int .i64 (P8 : Int), .int .i64 (Q8 : Int)] 27))) := (belowCall HB9.out bb HB9.out.size).alloc (Nat.le_trans HB9.out.size bb.size) _
    have HK10 : Hid (Blk (w10.alloc (.cells #[.int .i64 (P8 : Int), .int .i64 (Q8 : Int)] 27)) k6 #[.int .i64 (p' : Int), .int .i64 (q' : Int)] 27) := (HK9.out.below bb HK9.out.lt).alloc _
    have HM10 : Hid (Blk (w10.alloc (.cells #[.int .i64 (P8 : Int), .int .i64 (Q8 : Int)] 27)) w10.heap.size #[.int .i64 (P8 : Int), .int .i64 (Q8 : Int)] 27) := Blk.new _ _ _
    clear bb HB9 HK9 HM9 c0 c1 d0 d1 HCN'
    have c0 : (w10.alloc (.cells #[.int .i64 (P8 : Int), .int .i64 (Q8 : Int)] 27)).cell? ⟨k6, 0, none⟩ = some (.int .i64 (p' : Int)) := HK10.out.cell 0
    have c1 : (w10.alloc (.cells #[.int .i64 (P8 : Int), .int .i64 (Q8 : Int)] 27)).cell? ⟨k6, 1, none⟩ = some (.int .i64 (q' : Int)) := HK10.out.cell 1
    have d0 : (w10.alloc (.cells #[.int .i64 (P8 : Int), .int .i64 (Q8 : Int)] 27)).cell? ⟨w10.heap.size, 0, none⟩ = some (.int .i64 (P8 : Int)) := HM10.out.cell 0
    have d1 : (w10.alloc (.cells #[.int .i64 (P8 : Int), .int .i64 (Q8 : Int)] 27)).cell? ⟨w10.heap.size, 1, none⟩ = some (.int .i64 (Q8 : Int)) := HM10.out.cell 1
    go_wp2
    go_ret
    exact ⟨rfl, HB10.out⟩
  | true =>
  cases T2 with
  | false =>
    clear c0 c1 d0 d1 HK5 HM5 tt hn1
    have HRD : Hid (Rd .u8 (w5.alloc (.cells #[.int .i64 (P2 : Int), .int .i64 (Q2 : Int)] 27)) v code) := HR.out.below HB5.out
    go_wp2_with (fail)
    refine (drawNd_c v code _ HRD.out HOK.out HLN.out).mono ?_
    rintro e w6 ⟨a, b, pn, pd, rfl, bb⟩
    have HB6 : Hid (Below w.heap.size w (w6.alloc (.cells #[.int .i64 pn, .int .i64 pd] 27))) := (belowCall HB5.out bb HB5.out.size).alloc (Nat.le_trans HB5.out.size bb.size) _
    have HK6 : Hid (Blk (w6.alloc (.cells #[.int .i64 pn, .int .i64 pd] 27)) w6.heap.size #[.int .i64 pn, .int .i64 pd] 27) := Blk.new _ _ _
    clear bb HB5 HRD
    obtain ⟨V, hV⟩ : ∃ V, ndV (ndO a b pn pd) = V := ⟨_, rfl⟩
    obtain ⟨U, hU⟩ : ∃ T, (ndO a b pn pd).isSome = T := ⟨_, rfl⟩
    have HU : Hid (ndV (ndO a b pn pd) = V ∧ (ndO a b pn pd).isSome = U) := ⟨hV, hU⟩
    have HCM : Hid (∀ W, Calls Try.prog 18 #[.int .i64 a, .int .i64 b, .agg #[.int .i64 pn, .int .i64 pd]] W fun e w' => e = .returned (.tuple #[.int .i64 V, .bool U]) ∧ Below W.heap.size W w') := fun W => by have := ndM_c a b pn pd W; unfold NdR at this; rw [hU, hV] at this; exact this
    have HCI : Hid (∀ W, Calls Try.prog 17 #[.int .i64 a, .int .i64 b, .agg #[.int .i64 pn, .int .i64 pd]] W fun e w' => e = .returned (.tuple #[.int .i64 V, .bool U]) ∧ Below W.heap.size W w') := fun W => by have := ndI_c a b pn pd W; unfold NdR at this; rw [hU, hV] at this; exact this
    clear hV hU
    go_wp2_with (fail)
    refine (HCI.out _).mono ?_
    rintro e w7 ⟨rfl, bb⟩
    obtain ⟨k6, hk6⟩ : ∃ k, w6.heap.size = k := ⟨_, rfl⟩
    have HB7 : Hid (Below w.heap.size w w7) := belowCall HB6.out bb HB6.out.size
    have HK7 : Hid (Blk w7 k6 #[.int .i64 pn, .int .i64 pd] 27) := by rw [← hk6]; exact HK6.out.below bb HK6.out.lt
    rw [hk6]
    clear bb HB6 HK6 hk6 HCI
    have c0 : w7.cell? ⟨k6, 0, none⟩ = some (.int .i64 pn) := HK7.out.cell 0
    have c1 : w7.cell? ⟨k6, 1, none⟩ = some (.int .i64 pd) := HK7.out.cell 1
    go_wp2_with (fail)
    refine (HCM.out _).mono ?_
    rintro e w8 ⟨rfl, bb⟩
    have HB8 : Hid (Below w.heap.size w w8) := belowCall HB7.out bb HB7.out.size
    have HK8 : Hid (Blk w8 k6 #[.int .i64 pn, .int .i64 pd] 27) := HK7.out.below bb HK7.out.lt
    clear bb HB7 HK7 HCM c0 c1
    have uu : (U != U) = false := by simp
    rcases nd_facts a b pn pd with hno | ⟨k, A, B, p', q', hso, rfl, rfl, rfl, rfl, hA, hB, hB', hp', hq', hq'', hk, hen, hle⟩
    · have hU0 : U = false := by rw [← HU.out.2, hno]; rfl
      have hV0 : V = -1 := by rw [← HU.out.1, hno]; rfl
      subst hU0 hV0
      clear hno uu
      go_wp2
      go_ret
      exact ⟨rfl, HB8.out⟩
    have hU0 : U = true := by rw [← HU.out.2, hso]; rfl
    have hV0 : V = (k : Int) := by rw [← HU.out.1, hso]; rfl
    subst hU0 hV0
    have HC1 : Hid (∀ W, Calls Try.prog 14 #[.int .i64 (k : Int), .int .i64 (A : Int), .int .i64 (B : Int)] W fun e w' => e = .returned (.tuple #[.agg #[.int .i64 ((blN A B k).1 : Int), .int .i64 ((blN A B k).2 : Int)], .bool true]) ∧ Below W.heap.size W w') := fun W => blI_n hA hB hB' hk W
    have HBD : Hid (∀ m : Nat, m ≤ 8 → (blN A B m).1 * q' ≤ 4611686018427387904 ∧ p' * (blN A B m).2 ≤ 4611686018427387904) := fun m hm => ⟨mul_bd (en_bd hA hB hB' hm).1 hq'', mul_bd' (en_bd hA hB hB' hm).2 hp'⟩
    have HLE : Hid (∀ m, m < k → p' * (blN A B m).2 < (blN A B m).1 * q') := hle
    have HCN : Hid (∀ m : Nat, m ≤ 8 → ∀ W, Calls Try.prog 14 #[.int .i64 (m : Int), .int .i64 (A : Int), .int .i64 (B : Int)] W fun e w' => e = .returned (.tuple #[.agg #[.int .i64 ((blN A B m).1 : Int), .int .i64 ((blN A B m).2 : Int)], .bool true]) ∧ Below W.heap.size W w') := fun m hm W => blI_n hA hB hB' hm W
    have HKB : Hid (k ≤ 8) := hk
    obtain ⟨P9, hP9⟩ : ∃ P, (blN A B k).1 = P := ⟨_, rfl⟩
    obtain ⟨Q9, hQ9⟩ : ∃ P, (blN A B k).2 = P := ⟨_, rfl⟩
    obtain ⟨s1, hs1⟩ : ∃ s, P9 * q' = s := ⟨_, rfl⟩
    obtain ⟨s2, hs2⟩ : ∃ s, p' * Q9 = s := ⟨_, rfl⟩
    have hbd := HBD.out k hk
    rw [hP9, hQ9] at HC1 hen hbd
    rw [hs1, hs2] at hen hbd
    have hw1 : wrap64 ((P9 : Int) * (q' : Int)) = (s1 : Int) := mulw hs1 hbd.1
    have hw2 : wrap64 ((p' : Int) * (Q9 : Int)) = (s2 : Int) := mulw hs2 hbd.2
    have hnl : ¬ ((s2 : Int) < (s1 : Int)) := Int.not_lt.2 (Int.ofNat_le.2 hen)
    clear hso uu hA hB hB' hp' hq' hq'' hk hle hen hbd hs1 hs2 hP9 hQ9
    go_wp2_with (fail)
    refine (HC1.out _).mono ?_
    rintro e w9 ⟨rfl, bb⟩
    have HB9 : Hid (Below w.heap.size w (w9.alloc (.cells #[.int .i64 (P9 : Int), .int .i64 (Q9 : Int)] 27))) := (belowCall HB8.out bb HB8.out.size).alloc (Nat.le_trans HB8.out.size bb.size) _
    have HK9 : Hid (Blk (w9.alloc (.cells #[.int .i64 (P9 : Int), .int .i64 (Q9 : Int)] 27)) k6 #[.int .i64 (p' : Int), .int .i64 (q' : Int)] 27) := (HK8.out.below bb HK8.out.lt).alloc _
    have HM9 : Hid (Blk (w9.alloc (.cells #[.int .i64 (P9 : Int), .int .i64 (Q9 : Int)] 27)) w9.heap.size #[.int .i64 (P9 : Int), .int .i64 (Q9 : Int)] 27) := Blk.new _ _ _
    clear bb HB8 HK8 HC1
    have c0 : (w9.alloc (.cells #[.int .i64 (P9 : Int), .int .i64 (Q9 : Int)] 27)).cell? ⟨k6, 0, none⟩ = some (.int .i64 (p' : Int)) := HK9.out.cell 0
    have c1 : (w9.alloc (.cells #[.int .i64 (P9 : Int), .int .i64 (Q9 : Int)] 27)).cell? ⟨k6, 1, none⟩ = some (.int .i64 (q' : Int)) := HK9.out.cell 1
    have d0 : (w9.alloc (.cells #[.int .i64 (P9 : Int), .int .i64 (Q9 : Int)] 27)).cell? ⟨w9.heap.size, 0, none⟩ = some (.int .i64 (P9 : Int)) := HM9.out.cell 0
    have d1 : (w9.alloc (.cells #[.int .i64 (P9 : Int), .int .i64 (Q9 : Int)] 27)).cell? ⟨w9.heap.size, 1, none⟩ = some (.int .i64 (Q9 : Int)) := HM9.out.cell 1
    have hk8 := HKB.out
    have hkw : wrap64 ((k : Int) - 1) = (k : Int) - 1 := wrap64_in (by clear hw1 hw2 hnl; omega)
    by_cases hk0 : k = 0
    · subst hk0
      have HCZ : Hid (∀ W, Calls Try.prog 14 #[.int .i64 (-1), .int .i64 (A : Int), .int .i64 (B : Int)] W fun e w' => e = .returned (.tuple #[.agg #[.int .i64 0, .int .i64 0], .bool false]) ∧ Below W.heap.size W w') := fun W => by
        have h0 : blB (-1) A B = false := by unfold blB; simp
        have := blI_c (-1) A B W
        unfold BlR at this
        rw [blR_no h0, h0] at this; exact this
      go_wp2_with (fail)
      refine (HCZ.out _).mono ?_
      rintro e w10 ⟨rfl, bb⟩
      have HB10 : Hid (Below w.heap.size w (w10.alloc (.cells #[.int .i64 0, .int .i64 0] 27))) := (belowCall HB9.out bb HB9.out.size).alloc (Nat.le_trans HB9.out.size bb.size) _
      clear bb HB9 HK9 HM9 c0 c1 d0 d1
      go_wp2
      go_ret
      exact ⟨rfl, HB10.out⟩
    obtain ⟨m, rfl⟩ : ∃ m, k = m + 1 := ⟨k - 1, by omega⟩
    have HCN' : Hid (∀ W, Calls Try.prog 14 #[.int .i64 (m : Int), .int .i64 (A : Int), .int .i64 (B : Int)] W fun e w' => e = .returned (.tuple #[.agg #[.int .i64 ((blN A B m).1 : Int), .int .i64 ((blN A B m).2 : Int)], .bool true]) ∧ Below W.heap.size W w') := HCN.out m (by clear hw1 hw2 hnl; omega)
    obtain ⟨P8, hP8⟩ : ∃ P, (blN A B m).1 = P := ⟨_, rfl⟩
    obtain ⟨Q8, hQ8⟩ : ∃ P, (blN A B m).2 = P := ⟨_, rfl⟩
    have hlt := HLE.out m (Nat.lt_succ_self m)
    have hbd := HBD.out m (by clear hw1 hw2 hnl; omega)
    rw [hP8, hQ8] at HCN' hlt hbd
    obtain ⟨u1, hu1⟩ : ∃ s, P8 * q' = s := ⟨_, rfl⟩
    obtain ⟨u2, hu2⟩ : ∃ s, p' * Q8 = s := ⟨_, rfl⟩
    rw [hu1, hu2] at hlt hbd
    have hw3 : wrap64 ((P8 : Int) * (q' : Int)) = (u1 : Int) := mulw hu1 hbd.1
    have hw4 : wrap64 ((p' : Int) * (Q8 : Int)) = (u2 : Int) := mulw hu2 hbd.2
    have hlt' : ((u2 : Int) < (u1 : Int)) := Int.ofNat_lt.2 hlt
    have hm1' : (0 : Int) < (m : Int) + 1 := by clear hw3 hw4 hlt' hlt hbd hw1 hw2 hnl; omega
    have hm2' : ((m : Int) + 1 == 0) = false := by clear hw3 hw4 hlt' hlt hbd hw1 hw2 hnl; simp; omega
    have hm3' : ¬ ((m : Int) + 1 = 0) := by clear hw3 hw4 hlt' hlt hbd hw1 hw2 hnl; omega
    have hke : wrap64 (((m : Int) + 1) - 1) = (m : Int) := by clear hw3 hw4 hlt' hlt hbd hw1 hw2 hnl; rw [wrap64_in (by omega)]; omega
    clear hu1 hu2 hbd hlt hP8 hQ8 hk0 hkw HCN HLE HBD
    go_wp2_with (fail)
    refine (HCN'.out _).mono ?_
    rintro e w10 ⟨rfl, bb⟩
    have HB10 : Hid (Below w.heap.size w (w10.alloc (.cells #[.int .i64 (P8 : Int), .int .i64 (Q8 : Int)] 27))) := (belowCall HB9.out bb HB9.out.size).alloc (Nat.le_trans HB9.out.size bb.size) _
    have HK10 : Hid (Blk (w10.alloc (.cells #[.int .i64 (P8 : Int), .int .i64 (Q8 : Int)] 27)) k6 #[.int .i64 (p' : Int), .int .i64 (q' : Int)] 27) := (HK9.out.below bb HK9.out.lt).alloc _
    have HM10 : Hid (Blk (w10.alloc (.cells #[.int .i64 (P8 : Int), .int .i64 (Q8 : Int)] 27)) w10.heap.size #[.int .i64 (P8 : Int), .int .i64 (Q8 : Int)] 27) := Blk.new _ _ _
    clear bb HB9 HK9 HM9 c0 c1 d0 d1 HCN'
    have c0 : (w10.alloc (.cells #[.int .i64 (P8 : Int), .int .i64 (Q8 : Int)] 27)).cell? ⟨k6, 0, none⟩ = some (.int .i64 (p' : Int)) := HK10.out.cell 0
    have c1 : (w10.alloc (.cells #[.int .i64 (P8 : Int), .int .i64 (Q8 : Int)] 27)).cell? ⟨k6, 1, none⟩ = some (.int .i64 (q' : Int)) := HK10.out.cell 1
    have d0 : (w10.alloc (.cells #[.int .i64 (P8 : Int), .int .i64 (Q8 : Int)] 27)).cell? ⟨w10.heap.size, 0, none⟩ = some (.int .i64 (P8 : Int)) := HM10.out.cell 0
    have d1 : (w10.alloc (.cells #[.int .i64 (P8 : Int), .int .i64 (Q8 : Int)] 27)).cell? ⟨w10.heap.size, 1, none⟩ = some (.int .i64 (Q8 : Int)) := HM10.out.cell 1
    go_wp2
    go_ret
    exact ⟨rfl, HB10.out⟩
  | true =>
  obtain ⟨q1, q2, q3⟩ := blB_parts HT.out.1
  obtain ⟨r1, -, -⟩ := blB_parts HT2.out.1
  obtain ⟨X, rfl⟩ : ∃ X : Nat, x = X := ⟨x.toNat, by omega⟩
  obtain ⟨Y, rfl⟩ : ∃ Y : Nat, y = Y := ⟨y.toNat, by omega⟩
  obtain ⟨N, rfl⟩ : ∃ N : Nat, n = N := ⟨n.toNat, by omega⟩
  have hX : X ≤ 20 := by omega
  have hY : 1 ≤ Y := by omega
  have hY' : Y ≤ 10 := by omega
  have hN : N < 8 := by omega
  have e0 : blN X Y N = (P, Q) := by have h1 := HT.out.2.1; have h2 := HT.out.2.2; rw [blR_yes HT.out.1] at h1 h2; simp at h1 h2; exact Prod.ext h1 h2
  have e9 : blN X Y (N + 1) = (P2, Q2) := by have h1 := HT2.out.2.1; have h2 := HT2.out.2.2; rw [blR_yes HT2.out.1] at h1 h2; rw [show ((N : Int) + 1).toNat = N + 1 by omega] at h1 h2; simp at h1 h2; exact Prod.ext h1 h2
  obtain ⟨ra, rb, rd, f1, f2, f3, f4⟩ := ch_at hX hY hY' hN
  rw [e9] at f1
  rw [e0] at f2
  dsimp only at f1 f2
  obtain ⟨P', Q', p, r, t, q, e1, e2, e3, e4, e5, e6, e7, e8, e10, e11, e12⟩ := bm_step hX hY hY' hN
  rw [e0] at e1
  cases e1
  rw [e9] at e12
  have HCR : Hid (P2 * q = p * Q2) := by have := low_cross p q; rw [← e12] at this; exact this
  have hm1 : wrap64 ((X : Int) * (P : Int)) = (p : Int) := mulw e2 e6
  have hm2 : wrap64 (((N : Int) + 1) * (Y : Int)) = (r : Int) := by have := mulw (a := N + 1) e3 (Nat.le_trans e7 (by decide)); exact this
  have hm3 : wrap64 ((r : Int) * (Q : Int)) = (t : Int) := mulw e4 e8
  have hm4 : wrap64 ((t : Int) + (p : Int)) = (q : Int) := addw e5 e10
  obtain ⟨L1, hL1⟩ : ∃ L, wrap64 ((P2 : Int) * (q : Int)) = L := ⟨_, rfl⟩
  have hL2 : wrap64 ((p : Int) * (Q2 : Int)) = L1 := by rw [← hL1]; exact (eqWrap HCR.out).symm
  obtain ⟨A1, hA1⟩ : ∃ A, floatOfInt .f64 (P2 : Int) = A := ⟨_, rfl⟩
  obtain ⟨A2, hA2⟩ : ∃ A, floatOfInt .f64 (Q2 : Int) = A := ⟨_, rfl⟩
  obtain ⟨A3, hA3⟩ : ∃ A, floatOfInt .f64 (P : Int) = A := ⟨_, rfl⟩
  obtain ⟨A4, hA4⟩ : ∃ A, floatOfInt .f64 (Q : Int) = A := ⟨_, rfl⟩
  rw [hA1, hA2] at f1
  rw [hA3, hA4] at f2
  have R1 : ∀ W, (binOp .quo 30 (.float .f64 A1) (.float .f64 A2)).run Try.prog W = .ok (.float .f64 ra) W := fun W => run_float_arith W .quo _ .f64 _ _ _ f1
  have R2 : ∀ W, (binOp .quo 30 (.float .f64 A3) (.float .f64 A4)).run Try.prog W = .ok (.float .f64 rb) W := fun W => run_float_arith W .quo _ .f64 _ _ _ f2
  have R3 : ∀ W, (binOp .add 30 (.float .f64 rb) (.float .f64 4427486594234968593)).run Try.prog W = .ok (.float .f64 rd) W := fun W => run_float_arith W .add _ .f64 _ _ _ f3
  have hnn : (L1 != L1) = false := by simp
  clear f1 f2 f3 e0 e9 e2 e3 e4 e5 e6 e7 e8 e10 e11 e12 q1 q2 q3 r1 hX hY hY' hN HK5 HM5 tt
  have HRD : Hid (Rd .u8 (w5.alloc (.cells #[.int .i64 (P2 : Int), .int .i64 (Q2 : Int)] 27)) v code) := HR.out.below HB5.out
  go_wp2_with (fail)
  refine (drawNd_c v code _ HRD.out HOK.out HLN.out).mono ?_
  rintro e w6 ⟨a, b, pn, pd, rfl, bb⟩
  have HB6 : Hid (Below w.heap.size w (w6.alloc (.cells #[.int .i64 pn, .int .i64 pd] 27))) := (belowCall HB5.out bb HB5.out.size).alloc (Nat.le_trans HB5.out.size bb.size) _
  have HK6 : Hid (Blk (w6.alloc (.cells #[.int .i64 pn, .int .i64 pd] 27)) w6.heap.size #[.int .i64 pn, .int .i64 pd] 27) := Blk.new _ _ _
  clear bb HB5 HRD c0 c1 d0 d1 R1 R2 R3 hm1 hm2 hm3 hm4 hL1 hL2 hA1 hA2 hA3 hA4 f4 hnn hn1
  obtain ⟨V, hV⟩ : ∃ V, ndV (ndO a b pn pd) = V := ⟨_, rfl⟩
  obtain ⟨U, hU⟩ : ∃ T, (ndO a b pn pd).isSome = T := ⟨_, rfl⟩
  have HU : Hid (ndV (ndO a b pn pd) = V ∧ (ndO a b pn pd).isSome = U) := ⟨hV, hU⟩
  have HCM : Hid (∀ W, Calls Try.prog 18 #[.int .i64 a, .int .i64 b, .agg #[.int .i64 pn, .int .i64 pd]] W fun e w' => e = .returned (.tuple #[.int .i64 V, .bool U]) ∧ Below W.heap.size W w') := fun W => by have := ndM_c a b pn pd W; unfold NdR at this; rw [hU, hV] at this; exact this
  have HCI : Hid (∀ W, Calls Try.prog 17 #[.int .i64 a, .int .i64 b, .agg #[.int .i64 pn, .int .i64 pd]] W fun e w' => e = .returned (.tuple #[.int .i64 V, .bool U]) ∧ Below W.heap.size W w') := fun W => by have := ndI_c a b pn pd W; unfold NdR at this; rw [hU, hV] at this; exact this
  clear hV hU
  go_wp2_with (fail)
  refine (HCI.out _).mono ?_
  rintro e w7 ⟨rfl, bb⟩
  obtain ⟨k6, hk6⟩ : ∃ k, w6.heap.size = k := ⟨_, rfl⟩
  have HB7 : Hid (Below w.heap.size w w7) := belowCall HB6.out bb HB6.out.size
  have HK7 : Hid (Blk w7 k6 #[.int .i64 pn, .int .i64 pd] 27) := by rw [← hk6]; exact HK6.out.below bb HK6.out.lt
  rw [hk6]
  clear bb HB6 HK6 hk6 HCI
  have c0 : w7.cell? ⟨k6, 0, none⟩ = some (.int .i64 pn) := HK7.out.cell 0
  have c1 : w7.cell? ⟨k6, 1, none⟩ = some (.int .i64 pd) := HK7.out.cell 1
  go_wp2_with (fail)
  refine (HCM.out _).mono ?_
  rintro e w8 ⟨rfl, bb⟩
  have HB8 : Hid (Below w.heap.size w w8) := belowCall HB7.out bb HB7.out.size
  have HK8 : Hid (Blk w8 k6 #[.int .i64 pn, .int .i64 pd] 27) := HK7.out.below bb HK7.out.lt
  clear bb HB7 HK7 HCM c0 c1
  have uu : (U != U) = false := by simp
  rcases nd_facts a b pn pd with hno | ⟨k, A, B, p', q', hso, rfl, rfl, rfl, rfl, hA, hB, hB', hp', hq', hq'', hk, hen, hle⟩
  · have hU0 : U = false := by rw [← HU.out.2, hno]; rfl
    have hV0 : V = -1 := by rw [← HU.out.1, hno]; rfl
    subst hU0 hV0
    clear hno uu
    go_wp2
    go_ret
    exact ⟨rfl, HB8.out⟩
  have hU0 : U = true := by rw [← HU.out.2, hso]; rfl
  have hV0 : V = (k : Int) := by rw [← HU.out.1, hso]; rfl
  subst hU0 hV0
  have HC1 : Hid (∀ W, Calls Try.prog 14 #[.int .i64 (k : Int), .int .i64 (A : Int), .int .i64 (B : Int)] W fun e w' => e = .returned (.tuple #[.agg #[.int .i64 ((blN A B k).1 : Int), .int .i64 ((blN A B k).2 : Int)], .bool true]) ∧ Below W.heap.size W w') := fun W => blI_n hA hB hB' hk W
  have HBD : Hid (∀ m : Nat, m ≤ 8 → (blN A B m).1 * q' ≤ 4611686018427387904 ∧ p' * (blN A B m).2 ≤ 4611686018427387904) := fun m hm => ⟨mul_bd (en_bd hA hB hB' hm).1 hq'', mul_bd' (en_bd hA hB hB' hm).2 hp'⟩
  have HLE : Hid (∀ m, m < k → p' * (blN A B m).2 < (blN A B m).1 * q') := hle
  have HCN : Hid (∀ m : Nat, m ≤ 8 → ∀ W, Calls Try.prog 14 #[.int .i64 (m : Int), .int .i64 (A : Int), .int .i64 (B : Int)] W fun e w' => e = .returned (.tuple #[.agg #[.int .i64 ((blN A B m).1 : Int), .int .i64 ((blN A B m).2 : Int)], .bool true]) ∧ Below W.heap.size W w') := fun m hm W => blI_n hA hB hB' hm W
  have HKB : Hid (k ≤ 8) := hk
  obtain ⟨P9, hP9⟩ : ∃ P, (blN A B k).1 = P := ⟨_, rfl⟩
  obtain ⟨Q9, hQ9⟩ : ∃ P, (blN A B k).2 = P := ⟨_, rfl⟩
  obtain ⟨s1, hs1⟩ : ∃ s, P9 * q' = s := ⟨_, rfl⟩
  obtain ⟨s2, hs2⟩ : ∃ s, p' * Q9 = s := ⟨_, rfl⟩
  have hbd := HBD.out k hk
  rw [hP9, hQ9] at HC1 hen hbd
  rw [hs1, hs2] at hen hbd
  have hw1 : wrap64 ((P9 : Int) * (q' : Int)) = (s1 : Int) := mulw hs1 hbd.1
  have hw2 : wrap64 ((p' : Int) * (Q9 : Int)) = (s2 : Int) := mulw hs2 hbd.2
  have hnl : ¬ ((s2 : Int) < (s1 : Int)) := Int.not_lt.2 (Int.ofNat_le.2 hen)
  clear hso uu hA hB hB' hp' hq' hq'' hk hle hen hbd hs1 hs2 hP9 hQ9
  go_wp2_with (fail)
  refine (HC1.out _).mono ?_
  rintro e w9 ⟨rfl, bb⟩
  have HB9 : Hid (Below w.heap.size w (w9.alloc (.cells #[.int .i64 (P9 : Int), .int .i64 (Q9 : Int)] 27))) := (belowCall HB8.out bb HB8.out.size).alloc (Nat.le_trans HB8.out.size bb.size) _
  have HK9 : Hid (Blk (w9.alloc (.cells #[.int .i64 (P9 : Int), .int .i64 (Q9 : Int)] 27)) k6 #[.int .i64 (p' : Int), .int .i64 (q' : Int)] 27) := (HK8.out.below bb HK8.out.lt).alloc _
  have HM9 : Hid (Blk (w9.alloc (.cells #[.int .i64 (P9 : Int), .int .i64 (Q9 : Int)] 27)) w9.heap.size #[.int .i64 (P9 : Int), .int .i64 (Q9 : Int)] 27) := Blk.new _ _ _
  clear bb HB8 HK8 HC1
  have c0 : (w9.alloc (.cells #[.int .i64 (P9 : Int), .int .i64 (Q9 : Int)] 27)).cell? ⟨k6, 0, none⟩ = some (.int .i64 (p' : Int)) := HK9.out.cell 0
  have c1 : (w9.alloc (.cells #[.int .i64 (P9 : Int), .int .i64 (Q9 : Int)] 27)).cell? ⟨k6, 1, none⟩ = some (.int .i64 (q' : Int)) := HK9.out.cell 1
  have d0 : (w9.alloc (.cells #[.int .i64 (P9 : Int), .int .i64 (Q9 : Int)] 27)).cell? ⟨w9.heap.size, 0, none⟩ = some (.int .i64 (P9 : Int)) := HM9.out.cell 0
  have d1 : (w9.alloc (.cells #[.int .i64 (P9 : Int), .int .i64 (Q9 : Int)] 27)).cell? ⟨w9.heap.size, 1, none⟩ = some (.int .i64 (Q9 : Int)) := HM9.out.cell 1
  have hk8 := HKB.out
  have hkw : wrap64 ((k : Int) - 1) = (k : Int) - 1 := wrap64_in (by clear hw1 hw2 hnl; omega)
  by_cases hk0 : k = 0
  · subst hk0
    have HCZ : Hid (∀ W, Calls Try.prog 14 #[.int .i64 (-1), .int .i64 (A : Int), .int .i64 (B : Int)] W fun e w' => e = .returned (.tuple #[.agg #[.int .i64 0, .int .i64 0], .bool false]) ∧ Below W.heap.size W w') := fun W => by
      have h0 : blB (-1) A B = false := by unfold blB; simp
      have := blI_c (-1) A B W
      unfold BlR at this
      rw [blR_no h0, h0] at this; exact this
    go_wp2_with (fail)
    refine (HCZ.out _).mono ?_
    rintro e w10 ⟨rfl, bb⟩
    have HB10 : Hid (Below w.heap.size w (w10.alloc (.cells #[.int .i64 0, .int .i64 0] 27))) := (belowCall HB9.out bb HB9.out.size).alloc (Nat.le_trans HB9.out.size bb.size) _
    clear bb HB9 HK9 HM9 c0 c1 d0 d1
    go_wp2
    go_ret
    exact ⟨rfl, HB10.out⟩
  obtain ⟨m, rfl⟩ : ∃ m, k = m + 1 := ⟨k - 1, by omega⟩
  have HCN' : Hid (∀ W, Calls Try.prog 14 #[.int .i64 (m : Int), .int .i64 (A : Int), .int .i64 (B : Int)] W fun e w' => e = .returned (.tuple #[.agg #[.int .i64 ((blN A B m).1 : Int), .int .i64 ((blN A B m).2 : Int)], .bool true]) ∧ Below W.heap.size W w') := HCN.out m (by clear hw1 hw2 hnl; omega)
  obtain ⟨P8, hP8⟩ : ∃ P, (blN A B m).1 = P := ⟨_, rfl⟩
  obtain ⟨Q8, hQ8⟩ : ∃ P, (blN A B m).2 = P := ⟨_, rfl⟩
  have hlt := HLE.out m (Nat.lt_succ_self m)
  have hbd := HBD.out m (by clear hw1 hw2 hnl; omega)
  rw [hP8, hQ8] at HCN' hlt hbd
  obtain ⟨u1, hu1⟩ : ∃ s, P8 * q' = s := ⟨_, rfl⟩
  obtain ⟨u2, hu2⟩ : ∃ s, p' * Q8 = s := ⟨_, rfl⟩
  rw [hu1, hu2] at hlt hbd
  have hw3 : wrap64 ((P8 : Int) * (q' : Int)) = (u1 : Int) := mulw hu1 hbd.1
  have hw4 : wrap64 ((p' : Int) * (Q8 : Int)) = (u2 : Int) := mulw hu2 hbd.2
  have hlt' : ((u2 : Int) < (u1 : Int)) := Int.ofNat_lt.2 hlt
  have hm1' : (0 : Int) < (m : Int) + 1 := by clear hw3 hw4 hlt' hlt hbd hw1 hw2 hnl; omega
  have hm2' : ((m : Int) + 1 == 0) = false := by clear hw3 hw4 hlt' hlt hbd hw1 hw2 hnl; simp; omega
  have hm3' : ¬ ((m : Int) + 1 = 0) := by clear hw3 hw4 hlt' hlt hbd hw1 hw2 hnl; omega
  have hke : wrap64 (((m : Int) + 1) - 1) = (m : Int) := by clear hw3 hw4 hlt' hlt hbd hw1 hw2 hnl; rw [wrap64_in (by omega)]; omega
  clear hu1 hu2 hbd hlt hP8 hQ8 hk0 hkw HCN HLE HBD
  go_wp2_with (fail)
  refine (HCN'.out _).mono ?_
  rintro e w10 ⟨rfl, bb⟩
  have HB10 : Hid (Below w.heap.size w (w10.alloc (.cells #[.int .i64 (P8 : Int), .int .i64 (Q8 : Int)] 27))) := (belowCall HB9.out bb HB9.out.size).alloc (Nat.le_trans HB9.out.size bb.size) _
  have HK10 : Hid (Blk (w10.alloc (.cells #[.int .i64 (P8 : Int), .int .i64 (Q8 : Int)] 27)) k6 #[.int .i64 (p' : Int), .int .i64 (q' : Int)] 27) := (HK9.out.below bb HK9.out.lt).alloc _
  have HM10 : Hid (Blk (w10.alloc (.cells #[.int .i64 (P8 : Int), .int .i64 (Q8 : Int)] 27)) w10.heap.size #[.int .i64 (P8 : Int), .int .i64 (Q8 : Int)] 27) := Blk.new _ _ _
  clear bb HB9 HK9 HM9 c0 c1 d0 d1 HCN'
  have c0 : (w10.alloc (.cells #[.int .i64 (P8 : Int), .int .i64 (Q8 : Int)] 27)).cell? ⟨k6, 0, none⟩ = some (.int .i64 (p' : Int)) := HK10.out.cell 0
  have c1 : (w10.alloc (.cells #[.int .i64 (P8 : Int), .int .i64 (Q8 : Int)] 27)).cell? ⟨k6, 1, none⟩ = some (.int .i64 (q' : Int)) := HK10.out.cell 1
  have d0 : (w10.alloc (.cells #[.int .i64 (P8 : Int), .int .i64 (Q8 : Int)] 27)).cell? ⟨w10.heap.size, 0, none⟩ = some (.int .i64 (P8 : Int)) := HM10.out.cell 0
  have d1 : (w10.alloc (.cells #[.int .i64 (P8 : Int), .int .i64 (Q8 : Int)] 27)).cell? ⟨w10.heap.size, 1, none⟩ = some (.int .i64 (Q8 : Int)) := HM10.out.cell 1
  go_wp2
  go_ret
  exact ⟨rfl, HB10.out⟩


end Go.Proofs.Ytiadakponjpkmaa
