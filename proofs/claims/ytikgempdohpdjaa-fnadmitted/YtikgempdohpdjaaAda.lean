/- What Admit tells; asksOk; no condition. -/
import Derived.Test.YtikgempdohpdjaaWin
import Derived.Test.YtikgempdohpdjaaBol
namespace Go.Proofs.Ytikgempdohpdjaa
open Go.RowKit Go.ChangeShapes Go.WideShapes Go.ChangeAt
set_option linter.unusedVariables false
set_option linter.unusedSimpArgs false
set_option maxRecDepth 8000

def akB (zs : List Int) : Bool := decide ((zs.length : Int) ≤ 60) && awB zs 1 1000
set_option maxHeartbeats 1600000 in
theorem asksI_c (v : Value) (zs : List Int) (w : World) (h : Rd .i64 w v zs) : Calls Try.prog 62 #[v] w fun e w' => e = .returned (.bool (akB zs)) ∧ w' = w := by
  have HR : Hid (Rd .i64 w v zs) := h
  obtain ⟨a, cap, rfl, h1, h2, -⟩ := id h
  unfold maxLen at h2
  have HE : Hid (akB zs = (decide ((zs.length : Int) ≤ 60) && awB zs 1 1000)) := rfl
  clear h
  by_cases hl : (zs.length : Int) ≤ 60
  case neg =>
    have HF : Hid (akB zs = false) := by show _ = _; rw [HE.out, decide_eq_false hl]; rfl
    have hd : decide ((zs.length : Int) ≤ 60) = false := decide_eq_false hl
    have he : ((zs.length : Int) ≤ 60) = False := eq_false hl
    clear hl
    go_enter Try.func62, Try.ntmps62
    go_wp2
    go_ret
    exact ⟨by rw [HF.out]; rfl, rfl⟩
  have HF : Hid (akB zs = awB zs 1 1000) := by show _ = _; rw [HE.out, decide_eq_true hl]; rfl
  have hd : decide ((zs.length : Int) ≤ 60) = true := decide_eq_true hl
  go_enter Try.func62, Try.ntmps62
  go_wp2_with (fail)
  refine (areWithin_c _ zs 1 1000 _ HR.out).mono ?_
  rintro e w1 ⟨rfl, hw⟩
  rw [hw]
  clear hw w1
  go_wp2
  go_ret
  exact ⟨by rw [HF.out]; rfl, rfl⟩
set_option maxHeartbeats 1600000 in
theorem asksM_c (v : Value) (zs : List Int) (w : World) (h : Rd .i64 w v zs) : Calls Try.prog 63 #[v] w fun e w' => e = .returned (.bool (akB zs)) ∧ w' = w := by
  obtain ⟨a, cap, rfl, h1, h2, -⟩ := id h
  unfold maxLen at h2
  have HC : Hid (∀ W j, j < zs.length → Below w.heap.size w W → ∃ bo : Nat × Nat, a = some ⟨bo.1, bo.2, none⟩ ∧ bo.1 < w.heap.size ∧ W.cell? ⟨bo.1, bo.2 + j, none⟩ = some (.int .i64 (zs.getD j 0))) := rdc h
  have HNO : Hid (∀ k, k < zs.length → ¬ (1 ≤ zs.getD k 0 ∧ zs.getD k 0 ≤ 1000) → akB zs = false) := fun k hk hn => by unfold akB; rw [awB_no k hk hn]; simp
  have HYE : Hid ((∀ k, k < zs.length → 1 ≤ zs.getD k 0 ∧ zs.getD k 0 ≤ 1000) → akB zs = decide ((zs.length : Int) ≤ 60)) := fun h => by unfold akB; rw [awB_yes h]; simp
  obtain ⟨L, hL⟩ : ∃ L, zs.length = L := ⟨_, rfl⟩
  rw [hL] at h1 HC HNO HYE ⊢
  obtain ⟨B, hB⟩ : ∃ B, akB zs = B := ⟨_, rfl⟩
  rw [hB] at HNO HYE ⊢
  clear hL h hB
  go_enter Try.func63, Try.ntmps63
  go_wp2
  go_loop [3] (fun i => ∃ j : Nat, j ≤ L ∧ i = .int .i64 j ∧ Hid (∀ k, k < j → 1 ≤ zs.getD k 0 ∧ zs.getD k 0 ≤ 1000)) (fun i => L - (intOf i).toNat)
  case atStart => exact ⟨0, Nat.zero_le _, rfl, fun k hk => by omega⟩
  case round =>
    obtain ⟨j, hj, rfl, hA⟩ := hrel
    by_cases hlt : j < L
    case neg =>
      obtain rfl : j = L := by omega
      have HT : Hid (B = decide ((j : Int) ≤ 60)) := HYE.out hA.out
      clear hlt hj
      obtain ⟨q, hq⟩ : ∃ q, decide ((j : Int) ≤ 60) = q := ⟨_, rfl⟩
      rw [hq] at HT
      go_wp2
      go_ret
      exact ⟨by rw [HT.out, ← hq]; simp, rfl⟩
    case pos =>
    obtain ⟨⟨b, off⟩, rfl, hbl, hc0⟩ := HC.out w j hlt (Below.refl _ _)
    dsimp only at hc0 hbl
    have HN := HNO.out j hlt
    have HS : Hid (1 ≤ zs.getD j 0 ∧ zs.getD j 0 ≤ 1000 → ∀ k, k < j + 1 → 1 ≤ zs.getD k 0 ∧ zs.getD k 0 ≤ 1000) := fun hq k hk => by
      rcases Nat.lt_or_ge k j with h | h
      · exact hA.out k h
      · obtain rfl : k = j := by omega
        exact hq
    obtain ⟨x, hx⟩ : ∃ x, zs.getD j 0 = x := ⟨_, rfl⟩
    rw [hx] at hc0 HN HS
    have HN : Hid (¬ (1 ≤ x ∧ x ≤ 1000) → B = false) := HN
    have hi0 : (0 : Int) ≤ (j : Int) := by omega
    have hi1 : (j : Int) < (L : Int) := by omega
    clear hx
    by_cases hq : 1 ≤ x ∧ x ≤ 1000
    case pos =>
      have HS2 : Hid (∀ k, k < j + 1 → 1 ≤ zs.getD k 0 ∧ zs.getD k 0 ≤ 1000) := HS.out hq
      have HD : Hid (decide (1 ≤ x ∧ x ≤ 1000) = true) := decide_eq_true hq
      clear hq HS
      go_wp2_with (fail)
      refine (in_c x 1 1000 _).mono ?_
      rintro e w1 ⟨rfl, hw⟩
      rw [hw, HD.out]
      clear hw w1
      go_wp2
      go_round
      case rel => exact ⟨j + 1, by omega, by go_num, HS2.out⟩
      case measure => simp [intOf]; omega
    case neg =>
    have HF : Hid (B = false) := HN.out hq
    have HD : Hid (decide (1 ≤ x ∧ x ≤ 1000) = false) := decide_eq_false hq
    clear hq HS
    go_wp2_with (fail)
    refine (in_c x 1 1000 _).mono ?_
    rintro e w1 ⟨rfl, hw⟩
    rw [hw, HD.out]
    clear hw w1
    go_wp2
    go_ret
    exact ⟨by rw [HF.out]; rfl, rfl⟩
/-- the sum of the first j -/
def smZ (zs : List Int) : Nat → Int
  | 0 => 0
  | j + 1 => smZ zs j + zs.getD j 0
/-- what is taken behind the first j asks -/
def tkN (room t0 : Int) (zs : List Int) : Nat → Int
  | 0 => t0
  | j + 1 => if tkN room t0 zs j + zs.getD j 0 ≤ room then tkN room t0 zs j + zs.getD j 0 else tkN room t0 zs j
def adA (room t0 : Int) (zs : List Int) (k : Nat) : Bool := decide (tkN room t0 zs k + zs.getD k 0 ≤ room)
def adL (room t0 : Int) (zs : List Int) : List Bool := (List.range zs.length).map (adA room t0 zs)
theorem adL_len (room t0 : Int) (zs : List Int) : (adL room t0 zs).length = zs.length := by simp [adL]
theorem adL_at (room t0 : Int) (zs : List Int) (k : Nat) (h : k < zs.length) : (adL room t0 zs).getD k false = adA room t0 zs k := by simp [adL, List.getElem?_map, List.getElem?_range h]
def adB (hs : List Int) (room : Int) (zs : List Int) : Bool := akB hs && decide (0 ≤ room ∧ room ≤ 100000) && akB zs
def adR (hs : List Int) (room : Int) (zs : List Int) : List Bool := if adB hs room zs = true then adL room (smZ hs hs.length) zs else []
theorem adR_no {hs : List Int} {room : Int} {zs : List Int} (h : adB hs room zs = false) : adR hs room zs = [] := by unfold adR; rw [h]; rfl
theorem adR_yes {hs : List Int} {room : Int} {zs : List Int} (h : adB hs room zs = true) : adR hs room zs = adL room (smZ hs hs.length) zs := by unfold adR; rw [if_pos h]
theorem akB_len {zs : List Int} (h : akB zs = true) : zs.length ≤ 60 := by unfold akB at h; rw [Bool.and_eq_true, decide_eq_true_eq] at h; omega
theorem akB_at {zs : List Int} (h : akB zs = true) (k : Nat) (hk : k < zs.length) : 1 ≤ zs.getD k 0 ∧ zs.getD k 0 ≤ 1000 := by unfold akB at h; rw [Bool.and_eq_true] at h; exact awB_at h.2 k hk
theorem smZ_bd {zs : List Int} (h : akB zs = true) : ∀ j, j ≤ zs.length → 0 ≤ smZ zs j ∧ smZ zs j ≤ 1000 * (j : Int)
  | 0, _ => by simp [smZ]
  | j + 1, hj => by have := smZ_bd h j (by omega); have := akB_at h j (by omega); rw [smZ]; omega
theorem tkN_bd {room t0 : Int} {zs : List Int} (h : akB zs = true) (h0 : 0 ≤ t0) (h1 : t0 ≤ 60000) : ∀ j, j ≤ zs.length → 0 ≤ tkN room t0 zs j ∧ tkN room t0 zs j ≤ 60000 + 1000 * (j : Int)
  | 0, _ => by simp [tkN]; omega
  | j + 1, hj => by have := tkN_bd (room := room) h h0 h1 j (by omega); have := akB_at h j (by omega); rw [tkN]; split <;> omega
def AdR (hs : List Int) (room : Int) (zs : List Int) (w : World) (e : Ending) (w' : World) : Prop := ∃ v, e = .returned (.tuple #[v, .bool (adB hs room zs)]) ∧ Ob w.heap.size w' v (adR hs room zs) ∧ Below w.heap.size w w'

end Go.Proofs.Ytikgempdohpdjaa
