/- FnHops15; no condition. -/
import Derived.Test.YtpkkmlgmdhcehaaHpM
namespace Go.Proofs.Ytpkkmlgmdhcehaa
open Go.RowKit Go.ChangeShapes Go.WideShapes Go.ChangeAt
set_option linter.unusedVariables false
set_option linter.unusedSimpArgs false
set_option maxRecDepth 8000

theorem boolInfo : (Try.prog.info? 4).map (fun i => (i.zero, i.size, i.bytes)) = some (some (.bool false), 1, 1) := by kernel_rfl
set_option maxHeartbeats 12800000 in
theorem hopsLaw (v : Value) (zs : List Int) (w : World) (h : Rd .u8 w v zs) (hok : ∀ z ∈ zs, (Lit.int .u8 z).wf = true) : Calls Try.prog 3 #[v] w fun e w' => e = .returned (.bool true) ∧ Below w.heap.size w w' := by
  have HK : Hid (∀ z ∈ zs, 0 ≤ z ∧ z ≤ 255) := fun z hz => bounds_u8 (hok z hz)
  have HR : Hid (Rd .u8 w v zs) := h
  have HB : Hid (Below w.heap.size w w) := Below.refl _ _
  clear h hok
  go_enter Try.func3, Try.ntmps3
  go_wp2_with (fail)
  refine (big_c v zs w HR.out).mono ?_
  rintro e w1 ⟨rfl, hw⟩
  rw [hw]
  clear hw w1
  by_cases hl : (1048576 : Int) < (zs.length : Int)
  · rw [decide_eq_true hl]
    go_wp2
    go_ret
    exact ⟨rfl, HB.out⟩
  rw [decide_eq_false hl]
  have HL : Hid (zs.length ≤ 1048576) := by show _ ≤ _; omega
  clear hl
  go_wp2_with (fail)
  refine (drawHop_c v zs w HR.out HK.out (by have := HL.out; omega)).mono ?_
  rintro e w1 ⟨s, f, c, rfl, b1⟩
  have HB1 : Hid (Below w.heap.size w w1) := b1
  clear b1
  go_wp2_with (fail)
  refine (hopI_c s f c _).mono ?_
  rintro e w2 ⟨rfl, hw⟩
  rw [hw]
  clear hw w2
  go_wp2_with (fail)
  refine (hopM_c s f c _).mono ?_
  rintro e w2 ⟨rfl, hw⟩
  rw [hw]
  clear hw w2
  have HLT := hop_lt s f c
  obtain ⟨r, hr⟩ : ∃ r, hopR s f c = r := ⟨_, rfl⟩
  rw [hr] at HLT ⊢
  have HLH : Hid (c ≤ r → r < 0) := HLT
  have e1 : (r != r) = false := by simp
  clear hr HLT
  obtain ⟨i0, hi, hz0, hz1, hz2⟩ := info_parts boolInfo
  have key : ∀ (t38 t39 t40 t41 : Value) (W : World), True := fun _ _ _ _ _ => trivial
  clear key
  by_cases c1 : c ≤ r
  case' pos =>
    have c2 := HLH.out c1
    have d1 : decide (c ≤ r) = true := decide_eq_true c1
    have d2 : decide (0 ≤ r) = false := decide_eq_false (by omega)
    have c3 : (0 ≤ r) = False := eq_false (by omega)
  case' neg =>
    have d1 : decide (c ≤ r) = false := decide_eq_false c1
    have c3 : (c ≤ r) = False := eq_false c1
  all_goals
    clear HLH
    go_wp2_with (at_make; refine wpList_make_full _ rfl _ _ 27 rfl w1.heap.size 4 i0 (.bool false) 1 Try.underlying27 hi hz0 hz1 .i64 .i64 _ _ 8 rfl rfl rfl rfl (by rw [hz2]; omega) (by unfold maxLen; omega) (Nat.le_refl _) ?_)
    intro w3 ho hg
    have HB3 : Hid (Below w.heap.size w w3) := belowCall HB1.out (grown_below hg (Nat.le_refl _) (by simp)) HB1.out.size
    have HG : Hid (w.heap.size ≤ w1.heap.size) := HB1.out.size
    have ho' : w3.ownsRow w1.heap.size 4 1 (.slice (some ⟨w1.heap.size, 0, none⟩) 8 8) 8 ((List.replicate 8 false).map Value.bool) := by
      have hx : (madeCells #[Value.bool false] 8).toList = (List.replicate 8 false).map Value.bool := by rw [toList_madeCells_one]; simp
      rw [hx] at ho; exact ho
    obtain ⟨gu, hgu⟩ : ∃ g, w1.heap.size = g := ⟨_, rfl⟩
    rw [hgu] at ho' HG ⊢
    have HO3 : Hid (w3.ownsRow gu 4 1 (.slice (some ⟨gu, 0, none⟩) 8 8) 8 ((List.replicate 8 false).map Value.bool)) := ho'
    clear ho ho' hg hgu HB1
    try clear c1
    try clear c2
    try clear d1
    try clear d2
    try clear c3
    go_wp2
    go_loopw [8] (fun i wr => ∃ (k : Nat) (us : List Bool), i = .int .i64 (16 * (k : Int)) ∧ k ≤ 256 ∧ Hid (us.length = 8 ∧ ∀ m : Nat, m < 8 → (∃ q : Nat, q < k ∧ hopX (atV zs 0 * 200) (16 * (q : Int) + atV zs 1) / 8192 = (m : Int)) → us.getD m false = true) ∧ Hid (wr.ownsRow gu 4 1 (.slice (some ⟨gu, 0, none⟩) 8 8) 8 (us.map Value.bool)) ∧ Hid (Below w.heap.size w wr)) (fun i _ => 4096 - (intOf i).toNat)
    case atStart => exact ⟨0, _, rfl, by omega, ⟨by simp, fun m _ ⟨q, hq, _⟩ => by omega⟩, HO3.out, HB3.out⟩
    case round =>
      obtain ⟨k, us, rfl, hk, hU, hO, hBr⟩ := hrel
      clear HO3 HB3
      by_cases hlt : k < 256
      case pos =>
        have hltI : 16 * (k : Int) < 4096 := by omega
        have hb0 := atV_bd zs 0 HK.out
        have hb1 := atV_bd zs 1 HK.out
        go_wp2_with (fail)
        refine (at_x v zs 0 _ (HR.out.below hBr.out) HK.out (by omega) HL.out).mono ?_
        rintro e wa ⟨rfl, hw⟩
        rw [hw]
        clear hw wa
        obtain ⟨xa, hxa⟩ : ∃ x, atV zs 0 = x := ⟨_, rfl⟩
        rw [hxa] at hb0 hU ⊢
        go_wp2_with (fail)
        refine (at_x v zs 1 _ (HR.out.below hBr.out) HK.out (by omega) HL.out).mono ?_
        rintro e wa ⟨rfl, hw⟩
        rw [hw]
        clear hw wa
        obtain ⟨xb, hxb⟩ : ∃ x, atV zs 1 = x := ⟨_, rfl⟩
        rw [hxb] at hb1 hU ⊢
        have HXX : Hid (atV zs 0 = xa ∧ atV zs 1 = xb) := ⟨hxa, hxb⟩
        clear hxa hxb
        go_wp2_with (fail)
        refine (hopI_c (xa * 200) (16 * (k : Int) + xb) 8 _).mono ?_
        rintro e wa ⟨rfl, hw⟩
        rw [hw]
        clear hw wa
        have h8 := hop8 (xa * 200) (16 * (k : Int) + xb) (by omega) (by omega) (by omega) (by omega)
        have hx0 : 0 ≤ hopX (xa * 200) (16 * (k : Int) + xb) ∧ hopX (xa * 200) (16 * (k : Int) + xb) ≤ 65535 := by unfold hopX; omega
        obtain ⟨q, hq⟩ : ∃ q : Nat, hopX (xa * 200) (16 * (k : Int) + xb) / 8192 = (q : Int) := ⟨(hopX (xa * 200) (16 * (k : Int) + xb) / 8192).toNat, by omega⟩
        have hq8 : q < 8 := by omega
        rw [h8, hq]
        have hqi : (q : Int) < 8 := by omega
        have hq0 : (0 : Int) ≤ (q : Int) := by omega
        have dq : decide ((q : Int) < 0) = false := decide_eq_false (by omega)
        have dq7 : decide (7 < (q : Int)) = false := decide_eq_false (by omega)
        have hul := hU.out.1
        have hc : wr.cell? ⟨gu, q, none⟩ = some (.bool (us.getD q false)) := by
          rw [hO.out.cellAt q (by omega), List.getElem?_map, List.getElem?_eq_getElem (by omega)]
          simp [List.getElem?_eq_getElem (show q < us.length by omega)]
        have hf := hO.out.frozenAt q
        have HS : Hid ((wr.setCell ⟨gu, q, none⟩ (.bool true)).ownsRow gu 4 1 (.slice (some ⟨gu, 0, none⟩) 8 8) 8 ((us.set q true).map Value.bool)) := by
          have := (hO.out.stored q (.bool true)).1
          rw [List.map_set]; exact this
        have HU' : Hid ((us.set q true).length = 8 ∧ ∀ m : Nat, m < 8 → (∃ q : Nat, q < k + 1 ∧ hopX (atV zs 0 * 200) (16 * (q : Int) + atV zs 1) / 8192 = (m : Int)) → (us.set q true).getD m false = true) := by
          rw [HXX.out.1, HXX.out.2]
          refine ⟨by simp [hul], fun m hm ⟨q', hq', e⟩ => ?_⟩
          by_cases em : m = q
          · subst em; simp [hul, hm]
          · have : (us.set q true).getD m false = us.getD m false := by simp [List.getElem?_set_ne (Ne.symm em)]
            rw [this]
            refine hU.out.2 m hm ⟨q', ?_, e⟩
            by_cases eq : q' = k
            · subst eq; rw [hq] at e; omega
            · omega
        have HBn : Hid (Below w.heap.size w (wr.setCell ⟨gu, q, none⟩ (.bool true))) := hBr.out.setCell (by dsimp only; exact HG.out) _
        obtain ⟨bq, hbq⟩ : ∃ b, us.getD q false = b := ⟨_, rfl⟩
        rw [hbq] at hc
        clear hU hO hBr h8 hx0 hq hul hb0 hb1 hbq
        go_wp2
        go_roundw
        case rel => exact ⟨k + 1, us.set q true, by go_num, by omega, HU'.out, HS.out, HBn.out⟩
        case measure => simp [intOf]; omega
      case neg =>
      obtain rfl : k = 256 := by omega
      have HUS : Hid (us.length = 8 ∧ ∀ m : Nat, m < 8 → us.getD m false = true) := ⟨hU.out.1, fun m hm => hU.out.2 m hm (hop_all _ _ m hm)⟩
      clear hU hk hlt
      go_wp2
      go_loopw [10] (fun i wx => ∃ m : Nat, i = .int .i64 m ∧ m ≤ 8 ∧ wx = wr) (fun i _ => 8 - (intOf i).toNat)
      case atStart => exact ⟨0, rfl, by omega, rfl⟩
      case round =>
        obtain ⟨m, rfl, hm, hwx⟩ := hrel
        subst hwx
        by_cases hlt : m < 8
        case pos =>
          have hltI : (m : Int) < 8 := by omega
          have hm0 : (0 : Int) ≤ (m : Int) := by omega
          have hc : wr.cell? ⟨gu, m, none⟩ = some (.bool true) := by
            rw [hO.out.cellAt m (by have := HUS.out.1; omega), List.getElem?_map, List.getElem?_eq_getElem (by have := HUS.out.1; omega)]
            have := HUS.out.2 m hlt
            simp [List.getElem?_eq_getElem (show m < us.length by have := HUS.out.1; omega)] at this ⊢
            exact this
          go_wp2
          go_roundw
          case rel => exact ⟨m + 1, by go_num, by omega, by first | rfl | trivial⟩
          case measure => simp [intOf]; omega
        case neg =>
        obtain rfl : m = 8 := by omega
        clear hm hlt
        go_wp2_with (fail)
        refine (drawKey_c v zs _ (HR.out.below hBr.out) HK.out (by have := HL.out; omega)).mono ?_
        rintro e w5 ⟨bv, ys, fr, rfl, r5, b5⟩
        have HR5 : Hid (Rd .i64 w5 bv ys) := r5
        have HB5 : Hid (Below w.heap.size w w5) := belowCall hBr.out b5 hBr.out.size
        clear r5 b5 hBr hO HUS
        go_wp2_with (fail)
        refine (keyI_c bv ys fr _ HR5.out).mono ?_
        rintro e w6 ⟨rfl, b6⟩
        have HR6 : Hid (Rd .i64 w6 bv ys) := HR5.out.below b6
        have HB6 : Hid (Below w.heap.size w w6) := belowCall HB5.out b6 HB5.out.size
        clear b6
        go_wp2_with (fail)
        refine (keyM_c bv ys fr _ HR6.out).mono ?_
        rintro e w7 ⟨rfl, b7⟩
        have HB7 : Hid (Below w.heap.size w w7) := belowCall HB6.out b7 HB6.out.size
        clear b7
        have HKB : keyB ys fr = true → 0 < keyR ys fr ∧ keyR ys fr < 65536 := keyR_bd
        obtain ⟨p, hp⟩ : ∃ p, keyR ys fr = p := ⟨_, rfl⟩
        obtain ⟨q, hq⟩ : ∃ q, keyB ys fr = q := ⟨_, rfl⟩
        rw [hp, hq] at HKB ⊢
        have e1 : (p == p) = true := by simp
        have e2 : (q == q) = true := by simp
        clear hp hq
        cases q with
        | false =>
          clear HKB
          go_wp2
          go_ret
          exact ⟨rfl, HB7.out⟩
        | true =>
          have k1 := (HKB rfl).1
          have k2 := (HKB rfl).2
          have dk1 : decide (0 < p) = true := decide_eq_true k1
          have dk2 : decide (p < 65536) = true := decide_eq_true k2
          clear HKB
          go_wp2
          go_ret
          exact ⟨rfl, HB7.out⟩

end Go.Proofs.Ytpkkmlgmdhcehaa
