/- The law of who is served; no condition. -/
import Derived.Test.YtikgempdohpdjaaDsv
import Derived.Test.YtikgempdohpdjaaSgm
import Derived.Test.YtikgempdohpdjaaSvi
import Derived.Test.YtikgempdohpdjaaSvm
import Derived.Test.YtikgempdohpdjaaChi
import Derived.Test.YtikgempdohpdjaaSmi
import Derived.Test.YtikgempdohpdjaaDra
namespace Go.Proofs.Ytikgempdohpdjaa
open Go.RowKit Go.ChangeShapes Go.WideShapes Go.ChangeAt
set_option linter.unusedVariables false
set_option linter.unusedSimpArgs false
set_option maxRecDepth 8000

/-- all that the law asks of what is served -/
structure SvA (ms : List (List Int)) (mg dw : Int) (X : List Int) : Prop where
  len : X.length = ms.length
  lo : ms.length ≤ 200
  mgb : 0 ≤ mg ∧ mg ≤ 60
  at' : ∀ t, t < ms.length → ∃ n : Nat, X.getD t 0 = (n : Int) ∧ n < (ms.getD t []).length ∧ (∀ s, s < ms.length → n < (ms.getD s []).length)
  bd : ∀ t k, t < ms.length → k < (ms.getD t []).length → -120 ≤ (ms.getD t []).getD k 0 ∧ (ms.getD t []).getD k 0 ≤ 0
  up : ∀ t, t + 1 < ms.length → X.getD (t + 1) 0 = X.getD t 0 ∨ max mg 1 ≤ (ms.getD (t + 1) []).getD (X.getD (t + 1) 0).toNat 0 - (ms.getD (t + 1) []).getD (X.getD t 0).toNat 0
  no : (chT X X.length).length < 2 → fwT (chT X X.length) (chT X X.length).length = 0
  two : 2 ≤ (chT X X.length).length → dw ≤ fwT (chT X X.length) (chT X X.length).length
theorem sv_all {ms : List (List Int)} {mg dw : Int} (h : svB ms mg dw = true) : SvA ms mg dw (svR ms mg dw) := by
  rw [svR_yes h]
  unfold svB at h
  simp only [Bool.and_eq_true, decide_eq_true_eq] at h
  obtain ⟨⟨hm, hg⟩, hd⟩ := h
  have ok := msB_ok hm
  have e : svL ms mg dw.toNat = svL ms mg dw.toNat := rfl
  have hd1 : 1 ≤ dw.toNat := by omega
  refine ⟨svL_len _ _ _, ok.hi, hg, fun t ht => ?_, fun t k ht hk => ok.bd t k ht (by rw [ok.len t ht] at hk; exact hk), fun t ht => ?_, ?_, ?_⟩
  · have hb := svN_bd ok (by omega) mg dw.toNat t
    exact ⟨(svN ms mg dw.toNat t).1, svL_at _ _ _ _ ht, by rw [ok.len t ht]; exact hb.1, fun s hs => by rw [ok.len s hs]; exact hb.1⟩
  · rw [svL_at _ _ _ _ ht, svL_at _ _ _ _ (show t < ms.length by omega)]
    rcases sv_step hd1 (ms := ms) (mg := mg) t with h1 | h1
    · exact .inl (by rw [h1])
    · exact .inr (by simpa using h1.2.2.2)
  · intro hl
    rcases Nat.eq_zero_or_pos ms.length with h0 | h0
    · have : (svL ms mg dw.toNat).length = 0 := by rw [svL_len]; exact h0
      rw [this]; rfl
    · rw [svL_len] at hl ⊢
      exact (ch_inv hd1 (mg := mg) ms.length h0 (Nat.le_refl _)).no hl
  · intro hl
    rcases Nat.eq_zero_or_pos ms.length with h0 | h0
    · have : (svL ms mg dw.toNat).length = 0 := by rw [svL_len]; exact h0
      rw [this] at hl; simp [chT] at hl
    · rw [svL_len] at hl ⊢
      have := (ch_inv hd1 (mg := mg) ms.length h0 (Nat.le_refl _)).two hl
      omega
set_option maxHeartbeats 51200000 in
theorem servedLaw (v : Value) (code : List Int) (w : World) (h : Rd .u8 w v code) (hok : ∀ z ∈ code, (Lit.int .u8 z).wf = true) : Calls Try.prog 3 #[v] w fun e w' => e = .returned (.bool true) ∧ Below w.heap.size w w' := by
  have HR : Hid (Rd .u8 w v code) := h
  have HOK : Hid (∀ z ∈ code, 0 ≤ z ∧ z ≤ 255) := fun z hz => bounds_u8 (hok z hz)
  clear h hok
  go_enter Try.func3, Try.ntmps3
  go_wp2_with (fail)
  refine (big_c v code _ HR.out).mono ?_
  rintro e w0 ⟨rfl, hw⟩
  rw [hw]
  clear hw w0
  by_cases hbig : (1048576 : Int) < (code.length : Int)
  case pos =>
    rw [decide_eq_true hbig]
    clear hbig
    go_wp2
    go_ret
    exact ⟨rfl, Below.refl _ _⟩
  rw [decide_eq_false hbig]
  have HLN : Hid (code.length ≤ 2097152) := by show _ ≤ _; omega
  clear hbig
  go_wp2_with (fail)
  refine (drawServ_c v code _ HR.out HOK.out HLN.out).mono ?_
  rintro e w1 ⟨u, mg, dw, ls, rfl, hrn, b1⟩
  have HB1 : Hid (Below w.heap.size w w1) := b1
  have HRN : Hid (Rn w1 u ls) := hrn
  clear b1 HR HOK HLN
  obtain ⟨a, cap, rfl, hc1, hc2, -⟩ := hrn
  obtain ⟨T, hT⟩ : ∃ T, svB ls mg dw = T := ⟨_, rfl⟩
  obtain ⟨X, hX⟩ : ∃ X, svR ls mg dw = X := ⟨_, rfl⟩
  have HFA : Hid (T = true → SvA ls mg dw X) := fun h1 => by rw [← hX]; exact sv_all (hT.trans h1)
  have HFB : Hid (T = false → X = []) := fun h1 => by rw [← hX]; exact svR_no (hT.trans h1)
  have HCI : Hid (∀ (x : Value) (W : World), Rn W x ls → Calls Try.prog 14 #[x, .int .i64 mg, .int .i64 dw] W fun e w' => ∃ v, e = .returned (.tuple #[v, .bool T]) ∧ Ow .i64 3 W.heap.size w' v X ∧ Below W.heap.size W w') := fun x W hx => by
    have := servI_c x ls mg dw W hx
    unfold SvR at this
    rw [hT, hX] at this; exact this
  have HCM : Hid (∀ (x : Value) (W : World), Rn W x ls → Calls Try.prog 15 #[x, .int .i64 mg, .int .i64 dw] W fun e w' => ∃ v, e = .returned (.tuple #[v, .bool T]) ∧ Ow .i64 3 W.heap.size w' v X ∧ Below W.heap.size W w') := fun x W hx => by
    have := servM_c x ls mg dw W hx
    unfold SvR at this
    rw [hT, hX] at this; exact this
  have HCS : Hid (∀ (x : Value) (W : World), Rn W x [[-50, -60], [-70, -60]] → Calls Try.prog 14 #[x, .int .i64 3, .int .i64 1] W fun e w' => ∃ v, e = .returned (.tuple #[v, .bool true]) ∧ Ow .i64 3 W.heap.size w' v [0, 1] ∧ Below W.heap.size W w') := fun x W hx => by
    have := servI_c x [[-50, -60], [-70, -60]] 3 1 W hx
    unfold SvR at this
    rw [show svB [[-50, -60], [-70, -60]] 3 1 = true by decide, show svR [[-50, -60], [-70, -60]] 3 1 = [0, 1] by decide] at this; exact this
  obtain ⟨L, hL⟩ : ∃ L, ls.length = L := ⟨_, rfl⟩
  have HL : Hid (ls.length = L) := hL
  rw [hL] at HRN hc1 ⊢
  clear hT hX hL
  go_wp2_with (fail)
  refine (HCI.out _ _ HRN.out).mono ?_
  rintro e w2 ⟨vx, rfl, o2, bb⟩
  have HB2 : Hid (Below w.heap.size w w2) := belowCall HB1.out bb HB1.out.size
  have HR2 : Hid (Rn w2 (.slice a L cap) ls) := HRN.out.below bb
  have HX2 : Hid (Rd .i64 w2 vx X) := o2.rd
  clear o2 bb HB1 HRN HCI
  go_wp2_with (fail)
  refine (HCM.out _ _ HR2.out).mono ?_
  rintro e w3 ⟨vm, rfl, -, bb⟩
  have HB3 : Hid (Below w.heap.size w w3) := belowCall HB2.out bb HB2.out.size
  have HR3 : Hid (Rn w3 (.slice a L cap) ls) := HR2.out.below bb
  have HX3 : Hid (Rd .i64 w3 vx X) := HX2.out.below bb
  clear bb HB2 HR2 HX2 HCM
  have tt : (T != T) = false := by simp
  obtain ⟨V, hV⟩ : ∃ V, ((w3.alloc (.cells #[.int .i64 (-50), .int .i64 (-60)] 3)).alloc (.cells #[.int .i64 (-70), .int .i64 (-60)] 3)).alloc (.cells #[.slice (some ⟨w3.heap.size, 0, none⟩) 2 2, .slice (some ⟨w3.heap.size + 1, 0, none⟩) 2 2] 27) = V := ⟨_, rfl⟩
  have HRS : Hid (Rn V (.slice (some ⟨w3.heap.size + 1 + 1, 0, none⟩) 2 2) [[-50, -60], [-70, -60]]) := by
    show Rn _ _ _
    have r1 : Rd .i64 V (.slice (some ⟨w3.heap.size, 0, none⟩) 2 2) [-50, -60] := by
      have := Rd.lit w3 [-50, -60] (by decide)
      rw [← hV]
      exact (this.below ((Below.refl _ _).alloc (Nat.le_refl _) _)).below ((Below.refl _ _).alloc (Nat.le_refl _) _)
    have r2 : Rd .i64 V (.slice (some ⟨w3.heap.size + 1, 0, none⟩) 2 2) [-70, -60] := by
      have := Rd.lit (w3.alloc (.cells #[.int .i64 (-50), .int .i64 (-60)] 3)) [-70, -60] (by decide)
      rw [← hV]
      refine Rd.below ?_ ((Below.refl _ _).alloc (Nat.le_refl _) _)
      simpa using this
    have k3 : Blk V (w3.heap.size + 1 + 1) #[.slice (some ⟨w3.heap.size, 0, none⟩) 2 2, .slice (some ⟨w3.heap.size + 1, 0, none⟩) 2 2] 27 := by rw [← hV]; exact Blk.newAt _ _ _ _ (by simp)
    refine ⟨_, 2, rfl, by decide, by decide, .inr ⟨w3.heap.size + 1 + 1, 0, rfl, fun i hi => ?_⟩⟩
    match i, hi with
    | 0, _ => exact ⟨_, by have := k3.cell 0; simpa using this, r1⟩
    | 1, _ => exact ⟨_, by have := k3.cell 1; simpa using this, r2⟩
    | i + 2, hi => exact absurd hi (by simp)
  have bV : Below w3.heap.size w3 V := by rw [← hV]; exact (((Below.refl _ _).alloc (Nat.le_refl _) _).alloc (by simp) _).alloc (by simp; omega) _
  have HBV : Hid (Below w.heap.size w V) := belowCall HB3.out bV HB3.out.size
  have HRV : Hid (Rn V (.slice a L cap) ls) := HR3.out.below bV
  have HXV : Hid (Rd .i64 V vx X) := HX3.out.below bV
  have HV : Hid (((w3.alloc (.cells #[.int .i64 (-50), .int .i64 (-60)] 3)).alloc (.cells #[.int .i64 (-70), .int .i64 (-60)] 3)).alloc (.cells #[.slice (some ⟨w3.heap.size, 0, none⟩) 2 2, .slice (some ⟨w3.heap.size + 1, 0, none⟩) 2 2] 27) = V) := hV
  clear hV bV HB3 HR3 HX3
  go_wp2_with (fail)
  rw [HV.out]
  refine (HCS.out _ _ HRS.out).mono ?_
  rintro e w4 ⟨vs, rfl, o4, bb⟩
  have HB4 : Hid (Below w.heap.size w w4) := belowCall HBV.out bb HBV.out.size
  have HR4 : Hid (Rn w4 (.slice a L cap) ls) := HRV.out.below bb
  have HX4 : Hid (Rd .i64 w4 vx X) := HXV.out.below bb
  have b5 : Below w4.heap.size w4 (w4.alloc (.cells #[.int .i64 0, .int .i64 1] 3)) := (Below.refl _ _).alloc (Nat.le_refl _) _
  have HS5 : Hid (Rd .i64 (w4.alloc (.cells #[.int .i64 0, .int .i64 1] 3)) vs [0, 1]) := o4.rd.below b5
  have HL5 : Hid (Rd .i64 (w4.alloc (.cells #[.int .i64 0, .int .i64 1] 3)) (.slice (some ⟨w4.heap.size, 0, none⟩) 2 2) [0, 1]) := Rd.lit w4 [0, 1] (by decide)
  have HB5 : Hid (Below w.heap.size w (w4.alloc (.cells #[.int .i64 0, .int .i64 1] 3))) := belowCall HB4.out b5 HB4.out.size
  have HR5 : Hid (Rn (w4.alloc (.cells #[.int .i64 0, .int .i64 1] 3)) (.slice a L cap) ls) := HR4.out.below b5
  have HX5 : Hid (Rd .i64 (w4.alloc (.cells #[.int .i64 0, .int .i64 1] 3)) vx X) := HX4.out.below b5
  clear o4 bb b5 HBV HRV HXV HV HRS HCS HB4 HR4 HX4
  go_wp2_with (fail)
  refine (sameI vs _ _ _ _ HS5.out HL5.out).mono ?_
  rintro e w6 ⟨rfl, bb⟩
  rw [decide_eq_true (Eq.refl ([0, 1] : List Int))]
  have HB6 : Hid (Below w.heap.size w w6) := belowCall HB5.out bb HB5.out.size
  have HR6 : Hid (Rn w6 (.slice a L cap) ls) := HR5.out.below bb
  have HX6 : Hid (Rd .i64 w6 vx X) := HX5.out.below bb
  clear bb HB5 HR5 HX5 HS5 HL5
  cases T with
  | false =>
    have hx0 := HFB.out rfl
    subst hx0
    obtain ⟨ax, cx, rfl, -⟩ := HX6.out
    go_wp2
    go_ret
    exact ⟨rfl, HB6.out⟩
  | true =>
  have HA : Hid (SvA ls mg dw X) := HFA.out rfl
  clear HFA HFB tt
  have hxf := HX6.out
  obtain ⟨ax, cx, rfl, hx1, hx2, hx3⟩ := hxf
  have hxl : X.length = L := by rw [HA.out.len]; exact HL.out
  have HXL : Hid (X.length = L) := hxl
  rw [hxl] at hx1 ⊢
  clear hxl
  have hL200 : L ≤ 200 := by rw [← HL.out]; exact HA.out.lo
  go_wp2
  go_loopw [12] (fun i wr => ∃ j : Nat, i = .int .i64 j ∧ j ≤ L ∧ Hid (Below w6.heap.size w6 wr)) (fun i _ => L - (intOf i).toNat)
  case atStart => exact ⟨0, rfl, Nat.zero_le _, Below.refl _ _⟩
  case round =>
    obtain ⟨j, rfl, hj, HBR⟩ := hrel
    by_cases hlt : j < L
    case neg =>
      obtain rfl : j = L := by omega
      have HXR : Hid (Rd .i64 wr (.slice ax j cx) X) := by have := HX6.out.below HBR.out; rw [HXL.out] at this; exact this
      have HBW : Hid (Below w.heap.size w wr) := belowCall HB6.out HBR.out HB6.out.size
      have hci := chI_c _ X wr HXR.out (by rw [HXL.out]; omega)
      unfold CgR at hci
      have HN1 := HA.out.no
      have HN2 := HA.out.two
      generalize (chT X X.length).length = n at *
      generalize fwT (chT X X.length) n = f at *
      have HCI : Hid (Calls Try.prog 17 #[.slice ax j cx] wr fun e w' => e = .returned (.tuple #[.int .i64 (n : Int), .int .i64 f]) ∧ Below wr.heap.size wr w') := hci
      clear hci hx3
      by_cases hn2 : n < 2
      case pos =>
        have hf0 := HN1 hn2
        have hnI : (n : Int) < 2 := by omega
        clear HN1 HN2
        go_wp2_with (fail)
        refine HCI.out.mono ?_
        rintro e w7 ⟨rfl, b7⟩
        have HB7 : Hid (Below w.heap.size w w7) := belowCall HBW.out b7 HBW.out.size
        clear b7
        go_wp2
        go_ret
        exact ⟨rfl, HB7.out⟩
      case neg =>
        have hfd := HN2 (by omega)
        have hnI : ¬ ((n : Int) < 2) := by omega
        have hnJ : (2 : Int) ≤ (n : Int) := by omega
        clear HN1 HN2
        go_wp2_with (fail)
        refine HCI.out.mono ?_
        rintro e w7 ⟨rfl, b7⟩
        have HB7 : Hid (Below w.heap.size w w7) := belowCall HBW.out b7 HBW.out.size
        clear b7
        go_wp2
        go_ret
        exact ⟨rfl, HB7.out⟩
    case pos =>
      obtain ⟨n, hn, hnl, hns⟩ := HA.out.at' j (by rw [HL.out]; exact hlt)
      have hjI : (j : Int) < (L : Int) := by omega
      -- the one that serves
      have HXW : Hid (Rd .i64 wr (.slice ax L cx) X) := by have := HX6.out.below HBR.out; rw [HXL.out] at this; exact this
      have HRW : Hid (Rn wr (.slice a L cap) ls) := HR6.out.below HBR.out
      obtain ⟨bx, ox, rfl, hx4⟩ : ∃ b off, ax = some ⟨b, off, none⟩ ∧ ∀ i, i < L → wr.cell? ⟨b, off + i, none⟩ = some (.int .i64 (X.getD i 0)) := by
        obtain ⟨a', c', e, -, -, h3⟩ := HXW.out
        rcases h3 with h3 | ⟨b, off, e2, h4⟩
        · rw [← HXL.out, h3] at hlt; simp at hlt
        · cases e
          exact ⟨b, off, e2, fun i hi => h4 i (by rw [HXL.out]; exact hi)⟩
      obtain ⟨bm, om, rfl, hm4⟩ : ∃ b off, a = some ⟨b, off, none⟩ ∧ ∀ i, i < L → ∃ u, wr.cell? ⟨b, off + i, none⟩ = some u ∧ Rd .i64 wr u (ls.getD i []) := by
        obtain ⟨a', c', e, -, -, h3⟩ := HRW.out
        rcases h3 with h3 | ⟨b, off, e2, h4⟩
        · have := HL.out; rw [h3] at this; simp at this; omega
        · cases e
          exact ⟨b, off, e2, fun i hi => h4 i (by rw [HL.out]; exact hi)⟩
      have cx0 := hx4 j hlt
      rw [hn] at cx0
      obtain ⟨u, cu, hru⟩ := hm4 j hlt
      obtain ⟨ua, uc, rfl, hu1, hu2, hu3⟩ := hru
      obtain ⟨R, hR⟩ : ∃ R, (ls.getD j []).length = R := ⟨_, rfl⟩
      have HRE : Hid ((ls.getD j []).length = R) := hR
      rw [hR] at hnl cu
      clear hR
      have hnl' : (n : Int) < (R : Int) := by omega
      have hnl2 : decide ((R : Int) ≤ (n : Int)) = false := decide_eq_false (by omega)
      have hnl3 : ¬ ((R : Int) ≤ (n : Int)) := by omega
      have hnl4 : ¬ (R ≤ n) := by omega
      have hnl5 : decide (R ≤ n) = false := decide_eq_false (by omega)
      have hn0 : decide ((n : Int) < 0) = false := decide_eq_false (by omega)
      have hn1 : ¬ ((n : Int) < 0) := by omega
      cases j with
      | zero =>
        have HBW : Hid (Below w6.heap.size w6 wr) := HBR.out
        have hz : (0 : Nat) + 0 = 0 := rfl
        clear hx4 hm4 hx3 hu3 HXW HRW
        simp only [Nat.add_zero] at cx0 cu
        go_wp2_with (fail)
        go_quiet (fail)
        have HB7 : Hid (Below w6.heap.size w6 (wr.drewN nq)) := below_drewN HBW.out _
        clear HBW HBR
        go_wp2
        go_roundw
        case rel => exact ⟨1, by first | rfl | go_num, by omega, HB7.out⟩
        case measure => simp [intOf]; omega
      | succ j =>
      obtain ⟨p, hp, -, hps⟩ := HA.out.at' j (by rw [HL.out]; omega)
      have hpR : p < R := by have := hps (j + 1) (by rw [HL.out]; exact hlt); rw [HRE.out] at this; exact this
      have cy0 := hx4 j (by omega)
      rw [hp] at cy0
      have hup := HA.out.up j (by rw [HL.out]; exact hlt)
      rw [hn, hp] at hup
      have hbn := HA.out.bd (j + 1) n (by rw [HL.out]; exact hlt) (by rw [HRE.out]; exact hnl)
      have hbp := HA.out.bd (j + 1) p (by rw [HL.out]; exact hlt) (by rw [HRE.out]; exact hpR)
      obtain ⟨br, orr, rfl, hc4⟩ : ∃ b off, ua = some ⟨b, off, none⟩ ∧ ∀ i, i < R → wr.cell? ⟨b, off + i, none⟩ = some (.int .i64 ((ls.getD (j + 1) []).getD i 0)) := by
        rcases hu3 with h3 | ⟨b, off, e2, h4⟩
        · have := HRE.out; rw [h3] at this; simp at this; omega
        · exact ⟨b, off, e2, fun i hi => h4 i (by rw [HRE.out]; exact hi)⟩
      have cn := hc4 n hnl
      have cp := hc4 p hpR
      obtain ⟨A, hA⟩ : ∃ A, (ls.getD (j + 1) []).getD n 0 = A := ⟨_, rfl⟩
      obtain ⟨B, hB⟩ : ∃ B, (ls.getD (j + 1) []).getD p 0 = B := ⟨_, rfl⟩
      rw [hA] at cn hbn
      rw [hB] at cp hbp
      have hmg := HA.out.mgb
      have hpI : (p : Int) < (R : Int) := by omega
      have ht0 : decide ((0 : Int) < (j : Int) + 1) = true := decide_eq_true (by omega)
      have HBW : Hid (Below w6.heap.size w6 wr) := HBR.out
      by_cases hnp : n = p
      case pos =>
        subst hnp
        clear hx4 hm4 hx3 hu3 HXW HRW hc4 cn cp hA hB hbn hbp hup HBR
        go_wp2_with (fail)
        go_quiet (fail)
        have HB7 : Hid (Below w6.heap.size w6 (wr.drewN nq)) := below_drewN HBW.out _
        clear HBW cx0 cy0 cu
        go_wp2
        go_roundw
        case rel => exact ⟨j + 1 + 1, by go_num, by omega, HB7.out⟩
        case measure => simp [intOf]; omega
      case neg =>
        have hd : max mg 1 ≤ A - B := by
          rcases hup with h1 | h1
          · exact absurd (by omega : n = p) hnp
          · simp only [Int.toNat_natCast] at h1
            rw [hA, hB] at h1; exact h1
        have hq1 : ((n : Int) == (p : Int)) = false := by simp; omega
        have hq2 : ((n : Int) != (p : Int)) = true := by simp; omega
        have hq3 : ¬ ((n : Int) = (p : Int)) := by omega
        have ew : wrap64 (B + mg) = B + mg := wrap64_in (by omega)
        have hl1 : decide (A < B + mg) = false := decide_eq_false (by omega)
        have hl2 : ¬ (A < B + mg) := by omega
        have hl3 : decide (A ≤ B) = false := decide_eq_false (by omega)
        have hl4 : ¬ (A ≤ B) := by omega
        clear hx4 hm4 hx3 hu3 HXW HRW hc4 hA hB hup HBR
        go_wp2_with (fail)
        go_quiet (fail)
        have HB7 : Hid (Below w6.heap.size w6 (wr.drewN nq)) := below_drewN HBW.out _
        clear HBW cx0 cy0 cu cn cp
        go_wp2
        go_roundw
        case rel => exact ⟨j + 1 + 1, by go_num, by omega, HB7.out⟩
        case measure => simp [intOf]; omega

end Go.Proofs.Ytikgempdohpdjaa
