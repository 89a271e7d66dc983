/- The law of loudness; no condition. -/
import Derived.Test.YtikgempdohpdjaaLdd
import Derived.Test.YtikgempdohpdjaaLdi
import Derived.Test.YtikgempdohpdjaaLdm
import Derived.Test.YtikgempdohpdjaaLom
import Derived.Test.YtikgempdohpdjaaSmi
import Derived.Test.YtikgempdohpdjaaDra
namespace Go.Proofs.Ytikgempdohpdjaa
open Go.RowKit Go.ChangeShapes Go.WideShapes Go.ChangeAt
set_option linter.unusedVariables false
set_option linter.unusedSimpArgs false
set_option maxRecDepth 8000

theorem mid_facts {gv x s : Int} {m : Nat} (h1 : 0 ≤ gv) (h2 : gv ≤ 1000) (h3 : 1 ≤ x) (h4 : x ≤ 1000000) (h5 : 1 ≤ s) (h6 : s ≤ 1000 + 1000000000 * (m : Int)) (h7 : m ≤ 12) : ∃ p, gv * x = p ∧ wrap64 (gv * x) = p ∧ wrap64 (s + p) = s + p := by
  have h0 : 0 ≤ gv * x := Int.mul_nonneg h1 (by omega)
  have h9 : gv * x ≤ 1000 * 1000000 := Int.mul_le_mul h2 h4 (by omega) (by omega)
  exact ⟨_, rfl, wrap64_in (by omega), wrap64_in (by omega)⟩
theorem last_facts {gv x s want : Int} {m : Nat} (h1 : 0 ≤ gv) (h2 : gv ≤ 1000) (h3 : 1 ≤ x) (h4 : x ≤ 1000000) (w1 : 1 ≤ want) (w2 : want ≤ 100) (h5 : 1 ≤ s) (h6 : s ≤ 1000 + 1000000000 * (m : Int)) (h7 : m ≤ 12) (h : want * s ≤ gv * x) : ∃ p q, gv * x = p ∧ want * s = q ∧ wrap64 (gv * x) = p ∧ wrap64 (want * s) = q ∧ ¬ (p < q) := by
  have h0 : 0 ≤ gv * x := Int.mul_nonneg h1 (by omega)
  have h9 : gv * x ≤ 1000 * 1000000 := Int.mul_le_mul h2 h4 (by omega) (by omega)
  have h8 : 0 ≤ want * s := Int.mul_nonneg (by omega) (by omega)
  exact ⟨_, _, rfl, rfl, wrap64_in (by omega), wrap64_in (by omega), by omega⟩
theorem prod_bd {a x : Int} (h1 : 0 ≤ a) (h2 : a ≤ 1000) (h3 : 1 ≤ x) (h4 : x ≤ 1000000) : 0 ≤ a * x ∧ a * x ≤ 1000000000 :=
  ⟨Int.mul_nonneg h1 (by omega), by have := Int.mul_le_mul h2 h4 (by omega) (by omega); omega⟩
theorem prod_bd2 {a x : Int} (h1 : 1 ≤ a) (h2 : a ≤ 100) (h3 : 1 ≤ x) (h4 : x ≤ 100000000000) : 0 ≤ a * x ∧ a * x ≤ 10000000000000 :=
  ⟨Int.mul_nonneg (by omega) (by omega), by have := Int.mul_le_mul h2 h4 (by omega) (by omega); omega⟩

theorem ldR_len' {g : List (List Int)} {noise want steps : Int} (h : ldB g noise want steps = true) : GOk g ∧ (1 ≤ noise ∧ noise ≤ 1000) ∧ (1 ≤ want ∧ want ≤ 100) ∧ (0 ≤ steps ∧ steps ≤ 50) := by
  unfold ldB at h
  simp only [Bool.and_eq_true, decide_eq_true_eq] at h
  exact ⟨gnB_ok h.1.1.1, h.1.1.2, h.1.2, h.2⟩
/-- all that the law asks of the two rows -/
theorem loud_facts {g : List (List Int)} {noise want steps : Int} (h : ldB g noise want steps = true) (h' : ldB g noise want (steps + 1) = true) :
    GOk g ∧ (1 ≤ noise ∧ noise ≤ 1000) ∧ (1 ≤ want ∧ want ≤ 100) ∧ LOk g.length (ldR g noise want steps) ∧ LOk g.length (ldR g noise want (steps + 1)) ∧ (∀ k, k < g.length → (ldR g noise want steps).getD k 0 ≤ (ldR g noise want (steps + 1)).getD k 0) ∧
    (∀ i, i < g.length → (ldR g noise want (steps + 1)).getD i 0 = (ldR g noise want steps).getD i 0 → (ldR g noise want steps).getD i 0 < 1000000 → want * nxS (g.getD i []) noise (ldR g noise want steps) i g.length ≤ (g.getD i []).getD i 0 * (ldR g noise want steps).getD i 0) := by
  obtain ⟨hg, hn, hw, hs⟩ := ldR_len' h
  obtain ⟨s, rfl⟩ : ∃ s : Nat, steps = s := ⟨steps.toNat, by omega⟩
  rw [ldR_yes h, ldR_yes h', show ((s : Int) + 1).toNat = s + 1 by omega, show ((s : Int)).toNat = s by omega]
  exact ⟨hg, hn, hw, ldN_ok hg hn.1 hn.2 hw.1 s, ldN_ok hg hn.1 hn.2 hw.1 (s + 1), fun k hk => ldN_mono hg hn.1 hn.2 hw.1 s k hk, fun i hi he hx => ldN_still hg hi he hx⟩
set_option maxHeartbeats 51200000 in
theorem louderLaw (v : Value) (code : List Int) (w : World) (h : Rd .u8 w v code) (hok : ∀ z ∈ code, (Lit.int .u8 z).wf = true) : Calls Try.prog 5 #[v] w fun e w' => e = .returned (.bool true) ∧ Below w.heap.size w w' := by
  have HR : Hid (Rd .u8 w v code) := h
  have HOK : Hid (∀ z ∈ code, 0 ≤ z ∧ z ≤ 255) := fun z hz => bounds_u8 (hok z hz)
  clear h hok
  go_enter Try.func5, Try.ntmps5
  go_wp2_with (fail)
  refine (big_c v code _ HR.out).mono ?_
  rintro e w0 ⟨rfl, hw⟩
  rw [hw]
  clear hw w0
  by_cases hbig : (1048576 : Int) < (code.length : Int)
  case pos =>
    rw [decide_eq_true hbig]
    clear hbig
    go_wp2
    go_ret
    exact ⟨rfl, Below.refl _ _⟩
  rw [decide_eq_false hbig]
  have HLN : Hid (code.length ≤ 2097152) := by show _ ≤ _; omega
  clear hbig
  go_wp2_with (fail)
  refine (drawLoud_c v code _ HR.out HOK.out HLN.out).mono ?_
  rintro e w1 ⟨u, noise, want, steps, ls, rfl, hrn, hst, b1⟩
  have HB1 : Hid (Below w.heap.size w w1) := b1
  have HRN : Hid (Rn w1 u ls) := hrn
  clear b1 HR HOK HLN
  obtain ⟨a, cap, rfl, hc1, hc2, -⟩ := hrn
  obtain ⟨T, hT⟩ : ∃ T, ldB ls noise want steps = T := ⟨_, rfl⟩
  obtain ⟨T2, hT2⟩ : ∃ T, ldB ls noise want (steps + 1) = T := ⟨_, rfl⟩
  obtain ⟨X, hX⟩ : ∃ X, ldR ls noise want steps = X := ⟨_, rfl⟩
  obtain ⟨Y, hY⟩ : ∃ Y, ldR ls noise want (steps + 1) = Y := ⟨_, rfl⟩
  have HFA : Hid (T = true → T2 = true → GOk ls ∧ (1 ≤ noise ∧ noise ≤ 1000) ∧ (1 ≤ want ∧ want ≤ 100) ∧ LOk ls.length X ∧ LOk ls.length Y ∧ (∀ k, k < ls.length → X.getD k 0 ≤ Y.getD k 0) ∧ (∀ i, i < ls.length → Y.getD i 0 = X.getD i 0 → X.getD i 0 < 1000000 → want * nxS (ls.getD i []) noise X i ls.length ≤ (ls.getD i []).getD i 0 * X.getD i 0)) := fun h1 h2 => by
    have := loud_facts (hT.trans h1) (hT2.trans h2)
    rw [hX, hY] at this; exact this
  have HCI : Hid (∀ (x : Value) (W : World), Rn W x ls → Calls Try.prog 22 #[x, .int .i64 noise, .int .i64 want, .int .i64 steps] W fun e w' => ∃ v, e = .returned (.tuple #[v, .bool T]) ∧ Ow .i64 3 W.heap.size w' v X ∧ Below W.heap.size W w') := fun x W hx => by
    have := loudI_c x ls noise want steps W hx
    unfold LdR at this
    rw [hT, hX] at this; exact this
  have HCM : Hid (∀ (x : Value) (W : World), Rn W x ls → Calls Try.prog 23 #[x, .int .i64 noise, .int .i64 want, .int .i64 steps] W fun e w' => ∃ v, e = .returned (.tuple #[v, .bool T]) ∧ Ow .i64 3 W.heap.size w' v X ∧ Below W.heap.size W w') := fun x W hx => by
    have := loudM_c x ls noise want steps W hx
    unfold LdR at this
    rw [hT, hX] at this; exact this
  have HCJ : Hid (∀ (x : Value) (W : World), Rn W x ls → Calls Try.prog 22 #[x, .int .i64 noise, .int .i64 want, .int .i64 (steps + 1)] W fun e w' => ∃ v, e = .returned (.tuple #[v, .bool T2]) ∧ Ow .i64 3 W.heap.size w' v Y ∧ Below W.heap.size W w') := fun x W hx => by
    have := loudI_c x ls noise want (steps + 1) W hx
    unfold LdR at this
    rw [hT2, hY] at this; exact this
  have HCS : Hid (∀ (x : Value) (W : World), Rn W x [[4]] → Calls Try.prog 22 #[x, .int .i64 10, .int .i64 2, .int .i64 1] W fun e w' => ∃ v, e = .returned (.tuple #[v, .bool true]) ∧ Ow .i64 3 W.heap.size w' v [5] ∧ Below W.heap.size W w') := fun x W hx => by
    have := loudI_c x [[4]] 10 2 1 W hx
    unfold LdR at this
    rw [show ldB [[4]] 10 2 1 = true by decide, show ldR [[4]] 10 2 1 = [5] by decide] at this; exact this
  obtain ⟨L, hL⟩ : ∃ L, ls.length = L := ⟨_, rfl⟩
  have HL : Hid (ls.length = L) := hL
  rw [hL] at HRN HFA hc1 ⊢
  clear hT hT2 hX hY hL
  go_wp2_with (fail)
  refine (HCI.out _ _ HRN.out).mono ?_
  rintro e w2 ⟨vx, rfl, o2, bb⟩
  have HB2 : Hid (Below w.heap.size w w2) := belowCall HB1.out bb HB1.out.size
  have HR2 : Hid (Rn w2 (.slice a L cap) ls) := HRN.out.below bb
  have HX2 : Hid (Rd .i64 w2 vx X) := o2.rd
  clear o2 bb HB1 HRN HCI
  go_wp2_with (fail)
  refine (HCM.out _ _ HR2.out).mono ?_
  rintro e w3 ⟨vm, rfl, -, bb⟩
  have HB3 : Hid (Below w.heap.size w w3) := belowCall HB2.out bb HB2.out.size
  have HR3 : Hid (Rn w3 (.slice a L cap) ls) := HR2.out.below bb
  have HX3 : Hid (Rd .i64 w3 vx X) := HX2.out.below bb
  clear bb HB2 HR2 HX2 HCM
  have tt : (T != T) = false := by simp
  obtain ⟨V, hV⟩ : ∃ V, (w3.alloc (.cells #[.int .i64 4] 3)).alloc (.cells #[.slice (some ⟨w3.heap.size, 0, none⟩) 1 1] 27) = V := ⟨_, rfl⟩
  have HRS : Hid (Rn V (.slice (some ⟨w3.heap.size + 1, 0, none⟩) 1 1) [[4]]) := by
    show Rn _ _ _
    have k1 : Blk V w3.heap.size #[.int .i64 4] 3 := by rw [← hV]; exact (Blk.new _ _ _).alloc _
    have k3 : Blk V (w3.heap.size + 1) #[.slice (some ⟨w3.heap.size, 0, none⟩) 1 1] 27 := by rw [← hV]; exact Blk.newAt _ _ _ _ (by simp)
    refine ⟨_, 1, rfl, by decide, by decide, .inr ⟨w3.heap.size + 1, 0, rfl, fun i hi => ?_⟩⟩
    match i, hi with
    | 0, _ =>
      refine ⟨.slice (some ⟨w3.heap.size, 0, none⟩) 1 1, by have := k3.cell 0; simpa using this, _, 1, rfl, by decide, by decide, .inr ⟨w3.heap.size, 0, rfl, fun i hi => ?_⟩⟩
      match i, hi with
      | 0, _ => have := k1.cell 0; simpa using this
      | i + 1, hi => simp at hi
    | i + 1, hi => simp at hi
  have bV : Below w3.heap.size w3 V := by rw [← hV]; exact ((Below.refl _ _).alloc (Nat.le_refl _) _).alloc (by simp) _
  have HBV : Hid (Below w.heap.size w V) := belowCall HB3.out bV HB3.out.size
  have HRV : Hid (Rn V (.slice a L cap) ls) := HR3.out.below bV
  have HXV : Hid (Rd .i64 V vx X) := HX3.out.below bV
  have HV : Hid ((w3.alloc (.cells #[.int .i64 4] 3)).alloc (.cells #[.slice (some ⟨w3.heap.size, 0, none⟩) 1 1] 27) = V) := hV
  clear hV bV HB3 HR3 HX3
  go_wp2_with (fail)
  rw [HV.out]
  refine (HCS.out _ _ HRS.out).mono ?_
  rintro e w4 ⟨vs, rfl, o4, bb⟩
  have HB4 : Hid (Below w.heap.size w w4) := belowCall HBV.out bb HBV.out.size
  have HR4 : Hid (Rn w4 (.slice a L cap) ls) := HRV.out.below bb
  have HX4 : Hid (Rd .i64 w4 vx X) := HXV.out.below bb
  have b5 : Below w4.heap.size w4 (w4.alloc (.cells #[.int .i64 5] 3)) := (Below.refl _ _).alloc (Nat.le_refl _) _
  have HS5 : Hid (Rd .i64 (w4.alloc (.cells #[.int .i64 5] 3)) vs [5]) := o4.rd.below b5
  have HL5 : Hid (Rd .i64 (w4.alloc (.cells #[.int .i64 5] 3)) (.slice (some ⟨w4.heap.size, 0, none⟩) 1 1) [5]) := Rd.lit w4 [5] (by decide)
  have HB5 : Hid (Below w.heap.size w (w4.alloc (.cells #[.int .i64 5] 3))) := belowCall HB4.out b5 HB4.out.size
  have HR5 : Hid (Rn (w4.alloc (.cells #[.int .i64 5] 3)) (.slice a L cap) ls) := HR4.out.below b5
  have HX5 : Hid (Rd .i64 (w4.alloc (.cells #[.int .i64 5] 3)) vx X) := HX4.out.below b5
  clear o4 bb b5 HBV HRV HXV HV HRS HCS HB4 HR4 HX4
  go_wp2_with (fail)
  refine (sameI vs _ _ _ _ HS5.out HL5.out).mono ?_
  rintro e w6 ⟨rfl, bb⟩
  rw [decide_eq_true (Eq.refl ([5] : List Int))]
  have HB6 : Hid (Below w.heap.size w w6) := belowCall HB5.out bb HB5.out.size
  have HR6 : Hid (Rn w6 (.slice a L cap) ls) := HR5.out.below bb
  have HX6 : Hid (Rd .i64 w6 vx X) := HX5.out.below bb
  clear bb HB5 HR5 HX5 HS5 HL5
  have hsw : wrap64 (steps + 1) = steps + 1 := wrap64_in (by omega)
  go_wp2_with (fail)
  refine (HCJ.out _ _ HR6.out).mono ?_
  rintro e w7 ⟨vy, rfl, o7, bb⟩
  have HB7 : Hid (Below w.heap.size w w7) := belowCall HB6.out bb HB6.out.size
  have HR7 : Hid (Rn w7 (.slice a L cap) ls) := HR6.out.below bb
  have HX7 : Hid (Rd .i64 w7 vx X) := HX6.out.below bb
  have HY7 : Hid (Rd .i64 w7 vy Y) := o7.rd
  clear o7 bb HB6 HR6 HX6 HCJ hsw hst
  cases T with
  | false =>
    go_wp2
    go_ret
    exact ⟨rfl, HB7.out⟩
  | true =>
  cases T2 with
  | false =>
    go_wp2
    go_ret
    exact ⟨rfl, HB7.out⟩
  | true =>
  obtain ⟨hg, hn, hwt, hlx, hly, hmo, hstl⟩ := HFA.out rfl rfl
  have HG : Hid (GOk ls) := hg
  have HLX : Hid (LOk L X) := hlx
  have HLY : Hid (LOk L Y) := hly
  have HMO : Hid (∀ k, k < L → X.getD k 0 ≤ Y.getD k 0) := hmo
  have HSTL : Hid (∀ i, i < L → Y.getD i 0 = X.getD i 0 → X.getD i 0 < 1000000 → want * nxS (ls.getD i []) noise X i L ≤ (ls.getD i []).getD i 0 * X.getD i 0) := hstl
  have HNW : Hid ((1 ≤ noise ∧ noise ≤ 1000) ∧ (1 ≤ want ∧ want ≤ 100)) := ⟨hn, hwt⟩
  have HL12 : Hid (L ≤ 12) := by show _ ≤ _; rw [← HL.out]; exact hg.hi
  clear hg hn hwt hlx hly hmo hstl HFA tt hc1 hc2
  obtain ⟨xa, xc, rfl, hx1, hx2, -⟩ := id HX7.out
  obtain ⟨ya, yc, rfl, hy1, hy2, -⟩ := id HY7.out
  unfold maxLen at hx2 hy2
  rw [HLX.out.len] at HX7 hx1 ⊢
  rw [HLY.out.len] at HY7 hy1 ⊢
  have HCX : Hid (∀ W j, j < L → Below w7.heap.size w7 W → ∃ bo : Nat × Nat, xa = some ⟨bo.1, bo.2, none⟩ ∧ bo.1 < w7.heap.size ∧ W.cell? ⟨bo.1, bo.2 + j, none⟩ = some (.int .i64 (X.getD j 0))) := fun W j hj hW => rdc HX7.out W j (by rw [HLX.out.len]; exact hj) hW
  have HCY : Hid (∀ W j, j < L → Below w7.heap.size w7 W → ∃ bo : Nat × Nat, ya = some ⟨bo.1, bo.2, none⟩ ∧ bo.1 < w7.heap.size ∧ W.cell? ⟨bo.1, bo.2 + j, none⟩ = some (.int .i64 (Y.getD j 0))) := fun W j hj hW => rdc HY7.out W j (by rw [HLY.out.len]; exact hj) hW
  have HCG : Hid (∀ W j k, j < L → k < L → Below w7.heap.size w7 W → ∃ (bo co : Nat × Nat) (c : Nat), a = some ⟨bo.1, bo.2, none⟩ ∧ W.cell? ⟨bo.1, bo.2 + j, none⟩ = some (.slice (some ⟨co.1, co.2, none⟩) L c) ∧ W.cell? ⟨co.1, co.2 + k, none⟩ = some (.int .i64 ((ls.getD j []).getD k 0))) := fun W j k hj hk hW => by
    obtain ⟨bo, u, e1, -, e3, e4⟩ := rnc HR7.out W j (by rw [HL.out]; exact hj) hW
    have hln : (ls.getD j []).length = L := by rw [HG.out.len j (by rw [HL.out]; exact hj), HL.out]
    obtain ⟨ua, uc, rfl, -, -, -⟩ := id e4
    obtain ⟨co, e5, -, e6⟩ := rdc e4 W k (by rw [hln]; exact hk) hW
    subst e5
    rw [hln] at e3
    exact ⟨bo, co, uc, e1, e3, e6⟩
  have HSX : Hid (∀ i k, nxS (ls.getD i []) noise X i (k + 1) = if k = i then nxS (ls.getD i []) noise X i k else nxS (ls.getD i []) noise X i k + (ls.getD i []).getD k 0 * X.getD k 0) := fun i k => rfl
  have HSB : Hid (∀ i, i < L → ∀ k, k ≤ L → 1 ≤ nxS (ls.getD i []) noise X i k ∧ nxS (ls.getD i []) noise X i k ≤ 1000 + 1000000000 * (k : Int)) := fun i hi k hk => nxS_bd HG.out HNW.out.1.1 HNW.out.1.2 (by rw [HL.out]; exact HLX.out) (by rw [HL.out]; exact hi) k (by rw [HL.out]; exact hk)
  have ll : ((L : Int) != (L : Int)) = false := by simp
  have ll2 : ((L : Int) == (L : Int)) = true := by simp
  clear HX7 HY7 HR7
  go_wp2
  go_loopw [15, 16] (fun s i wr => ∃ (k : Nat) (st : Bool), i = .int .i64 k ∧ s = .bool st ∧ k ≤ L ∧ Hid (st = true → ∀ j, j < k → Y.getD j 0 = X.getD j 0) ∧ Hid (Below w7.heap.size w7 wr)) (fun _ i _ => L - (intOf i).toNat)
  case atStart => exact ⟨0, true, rfl, rfl, Nat.zero_le _, fun _ j hj => by omega, Below.refl _ _⟩
  case round =>
    obtain ⟨k, st, rfl, rfl, hk, hS, hB⟩ := hrel
    by_cases hlt : k < L
    case pos =>
      obtain ⟨⟨b1, f1⟩, rfl, -, hcx⟩ := HCX.out wr k hlt hB.out
      obtain ⟨⟨b2, f2⟩, rfl, -, hcy⟩ := HCY.out wr k hlt hB.out
      dsimp only at hcx hcy
      have hm := HMO.out k hlt
      have hbx := HLX.out.bd k hlt
      have hby := HLY.out.bd k hlt
      have HS1 : Hid (st = true → ∀ j, j < k → Y.getD j 0 = X.getD j 0) := hS
      have HS2 : Hid (st = true → Y.getD k 0 = X.getD k 0 → ∀ j, j < k + 1 → Y.getD j 0 = X.getD j 0) := fun h1 h2 j hj => by
        rcases Nat.lt_or_ge j k with h | h
        · exact hS.out h1 j h
        · obtain rfl : j = k := by omega
          exact h2
      obtain ⟨x, hx⟩ : ∃ x, X.getD k 0 = x := ⟨_, rfl⟩
      obtain ⟨y, hy⟩ : ∃ y, Y.getD k 0 = y := ⟨_, rfl⟩
      rw [hx] at hcx hm hbx HS2
      rw [hy] at hcy hm hby HS2
      have d1 : decide (y < x) = false := decide_eq_false (by omega)
      have d2 : decide (x < 1) = false := decide_eq_false (by omega)
      have d3 : decide (1000000 < y) = false := decide_eq_false (by omega)
      have e1 : ¬ (y < x) := by omega
      have e2 : ¬ (x < 1) := by omega
      have e3 : ¬ (1000000 < y) := by omega
      have d4 : decide (x ≤ 0) = false := decide_eq_false (by omega)
      have hi0 : (0 : Int) ≤ (k : Int) := by omega
      have hi1 : (k : Int) < (L : Int) := by omega
      have HDN : Hid (∀ m, Below w7.heap.size w7 (wr.drewN m)) := fun m => below_drewN hB.out m
      clear hx hy hm hbx hby hS hB
      go_wp2
      go_quiet (fail)
      obtain ⟨wd, hwd⟩ : ∃ W, wr.drewN nq = W := ⟨_, rfl⟩
      have HBD : Hid (Below w7.heap.size w7 wd) := by rw [← hwd]; exact HDN.out _
      have cx : wd.cell? ⟨b1, f1 + k, none⟩ = some (.int .i64 x) := by rw [← hwd]; exact hcx
      have cy : wd.cell? ⟨b2, f2 + k, none⟩ = some (.int .i64 y) := by rw [← hwd]; exact hcy
      rw [hwd]
      clear hwd hcx hcy HDN
      have HDN : Hid (∀ m, Below w7.heap.size w7 (wd.drewN m)) := fun m => below_drewN HBD.out m
      cases st with
      | false =>
        go_wp2
        go_quiet (fail)
        go_wp2
        go_roundw
        case rel => exact ⟨k + 1, false, by go_num, rfl, by omega, (fun h => by cases h), HDN.out _⟩
        case measure => simp [intOf]; omega
      | true =>
        obtain ⟨q, hq⟩ : ∃ q, (y == x) = q := ⟨_, rfl⟩
        have HQ : Hid (q = true → ∀ j, j < k + 1 → Y.getD j 0 = X.getD j 0) := fun h => HS2.out rfl (by rw [← hq] at h; simpa using h)
        clear HS1 HS2
        go_wp2
        go_quiet (fail)
        go_wp2
        go_roundw
        case rel => exact ⟨k + 1, q, by go_num, rfl, by omega, HQ.out, HDN.out _⟩
        case measure => simp [intOf]; omega
    case neg =>
    obtain rfl : k = L := by omega
    clear hlt hk
    cases st with
    | false =>
      go_wp2
      go_loopw [17] (fun i wr => i = .int .i64 0 ∧ Hid (Below w7.heap.size w7 wr)) (fun i _ => 0)
      case atStart => exact ⟨rfl, hB.out⟩
      case round =>
        obtain ⟨rfl, hB2⟩ := hrel
        have HB8 : Hid (Below w.heap.size w wr) := belowCall HB7.out hB2.out HB7.out.size
        go_wp2
        all_goals
          go_ret
          exact ⟨rfl, HB8.out⟩
    | true =>
    have HEQ : Hid (∀ j, j < k → Y.getD j 0 = X.getD j 0) := hS.out rfl
    clear hS
    go_wp2
    go_loopw [17] (fun i wr => ∃ (j : Nat), i = .int .i64 j ∧ j ≤ k ∧ Hid (Below w7.heap.size w7 wr)) (fun i _ => k - (intOf i).toNat)
    case atStart => exact ⟨0, rfl, Nat.zero_le _, hB.out⟩
    case round =>
      obtain ⟨j, rfl, hj, hB2⟩ := hrel
      clear hB
      by_cases hjl : j < k
      case neg =>
        obtain rfl : j = k := by omega
        clear hjl hj
        go_wp2
        go_ret
        exact ⟨rfl, belowCall HB7.out hB2.out HB7.out.size⟩
      case pos =>
      have HSJ : Hid (∀ m, m ≤ k → 1 ≤ nxS (ls.getD j []) noise X j m ∧ nxS (ls.getD j []) noise X j m ≤ 1000 + 1000000000 * (m : Int)) := HSB.out j hjl
      have HSN : Hid (∀ m, nxS (ls.getD j []) noise X j (m + 1) = if m = j then nxS (ls.getD j []) noise X j m else nxS (ls.getD j []) noise X j m + (ls.getD j []).getD m 0 * X.getD m 0) := HSX.out j
      have HS0 : Hid (nxS (ls.getD j []) noise X j 0 = noise) := rfl
      obtain ⟨F, hF⟩ : ∃ F, nxS (ls.getD j []) noise X j = F := ⟨_, rfl⟩
      have HFE : Hid (want * F k ≤ (ls.getD j []).getD j 0 * X.getD j 0 ∨ ¬ X.getD j 0 < 1000000) := by
        by_cases h : X.getD j 0 < 1000000
        · left; rw [← hF]; exact HSTL.out j hjl (HEQ.out j hjl) h
        · exact .inr h
      rw [hF] at HSJ HSN HS0
      clear hF
      have hj0 : (0 : Int) ≤ (j : Int) := by omega
      have hj1 : (j : Int) < (k : Int) := by omega
      have hk12 := HL12.out
      go_wp2
      go_loopw [18, 19] (fun s i wr => ∃ (m : Nat), i = .int .i64 m ∧ s = .int .i64 (F m) ∧ m ≤ k ∧ Hid (Below w7.heap.size w7 wr)) (fun _ i _ => k - (intOf i).toNat)
      case atStart => exact ⟨0, rfl, by rw [HS0.out], Nat.zero_le _, hB2.out⟩
      case round =>
        obtain ⟨m, rfl, rfl, hm, hB3⟩ := hrel
        clear hB2
        have hfb := HSJ.out m hm
        by_cases hml : m < k
        case pos =>
          have hm0 : (0 : Int) ≤ (m : Int) := by omega
          have hm1 : (m : Int) < (k : Int) := by omega
          have HN := HSN.out m
          by_cases hmj : m = j
          case pos =>
            have HN2 : Hid (F (m + 1) = F m) := by show _ = _; rw [HN, if_pos hmj]
            have hq : ((m : Int) != (j : Int)) = false := by simp; omega
            obtain ⟨s, hs⟩ : ∃ s, F m = s := ⟨_, rfl⟩
            rw [hs] at HN2 ⊢
            clear HN hs hfb hmj
            go_wp2
            go_roundw
            case rel => exact ⟨m + 1, by go_num, by rw [HN2.out], by omega, hB3.out⟩
            case measure => simp [intOf]; omega
          case neg =>
          have HN2 : Hid (F (m + 1) = F m + (ls.getD j []).getD m 0 * X.getD m 0) := by show _ = _; rw [HN, if_neg hmj]
          have hq : ((m : Int) != (j : Int)) = true := by simp; omega
          obtain ⟨⟨b1, f1⟩, rfl, -, hcx⟩ := HCX.out wr m hml hB3.out
          obtain ⟨⟨b2, f2⟩, ⟨b3, f3⟩, c3, rfl, hcr, hcg⟩ := HCG.out wr j m hjl hml hB3.out
          dsimp only at hcx hcr hcg
          have hgb := HG.out.bd j m (by rw [HL.out]; exact hjl) (by rw [HL.out]; exact hml)
          have hxb := HLX.out.bd m hml
          obtain ⟨gv, hgv⟩ : ∃ z, (ls.getD j []).getD m 0 = z := ⟨_, rfl⟩
          obtain ⟨x, hx⟩ : ∃ z, X.getD m 0 = z := ⟨_, rfl⟩
          obtain ⟨s, hs⟩ : ∃ s, F m = s := ⟨_, rfl⟩
          rw [hgv] at hcg hgb HN2
          rw [hx] at hcx hxb HN2
          rw [hs] at HN2 hfb ⊢
          obtain ⟨p, hp, hw1, hw2⟩ := mid_facts hgb.1 hgb.2 hxb.1 hxb.2 hfb.1 hfb.2 (show m ≤ 12 by omega)
          rw [hp] at HN2
          have HDN : Hid (∀ m, Below w7.heap.size w7 (wr.drewN m)) := fun m => below_drewN hB3.out m
          clear HN hs hfb hmj hgv hx hp hgb hxb hB3
          go_wp2
          go_quiet (fail)
          go_wp2
          go_roundw
          case rel => exact ⟨m + 1, by go_num, by rw [HN2.out, hw2], by omega, HDN.out _⟩
          case measure => simp [intOf]; omega
        case neg =>
        obtain rfl : m = k := by omega
        clear hml hm
        obtain ⟨⟨b1, f1⟩, rfl, -, hcx⟩ := HCX.out wr j hjl hB3.out
        obtain ⟨⟨b2, f2⟩, ⟨b3, f3⟩, c3, rfl, hcr, hcg⟩ := HCG.out wr j j hjl hjl hB3.out
        dsimp only at hcx hcr hcg
        have hgb := HG.out.bd j j (by rw [HL.out]; exact hjl) (by rw [HL.out]; exact hjl)
        have hxb := HLX.out.bd j hjl
        have hfe := HFE.out
        have hnw := HNW.out.2
        obtain ⟨gv, hgv⟩ : ∃ z, (ls.getD j []).getD j 0 = z := ⟨_, rfl⟩
        obtain ⟨x, hx⟩ : ∃ z, X.getD j 0 = z := ⟨_, rfl⟩
        obtain ⟨s, hs⟩ : ∃ s, F m = s := ⟨_, rfl⟩
        rw [hgv] at hcg hgb hfe
        rw [hx] at hcx hxb hfe
        rw [hs] at hfb hfe ⊢
        have HDN : Hid (∀ m, Below w7.heap.size w7 (wr.drewN m)) := fun m => below_drewN hB3.out m
        by_cases hx6 : x < 1000000
        case neg =>
          have d1 : decide (x < 1000000) = false := decide_eq_false hx6
          clear hfe hgb hxb hgv hx hs hfb hnw hB3 hx6
          go_wp2
          go_quiet (fail)
          go_wp2
          go_roundw
          case rel => exact ⟨j + 1, by go_num, by omega, HDN.out _⟩
          case measure => simp [intOf]; omega
        case pos =>
        have hfe' : want * s ≤ gv * x := by rcases hfe with h | h; exact h; omega
        obtain ⟨p, q, hp, hq, hw1, hw2, hpq⟩ := last_facts hgb.1 hgb.2 hxb.1 hxb.2 hnw.1 hnw.2 hfb.1 hfb.2 hk12 hfe'
        have d1 : decide (x < 1000000) = true := decide_eq_true hx6
        have d2 : decide (p < q) = false := decide_eq_false hpq
        have d3 : ¬ (p < q) := hpq
        clear hfe hfe' hgb hxb hgv hx hs hfb hnw hB3 hp hq hpq
        go_wp2
        go_quiet (fail)
        go_wp2
        go_roundw
        case rel => exact ⟨j + 1, by go_num, by omega, HDN.out _⟩
        case measure => simp [intOf]; omega

end Go.Proofs.Ytikgempdohpdjaa
