/- Sizes of steps, and coders; no condition. -/
import Derived.Test.YtkjfcebdjnclaaaDoorPkd
namespace Go.Proofs.YtkjfcebdjnclaaaDoor
open Go.RowKit Go.ChangeShapes Go.WideShapes Go.ChangeAt
set_option linter.unusedVariables false
set_option linter.unusedSimpArgs false
set_option maxRecDepth 8000

/-- the size of a step -/
def ssz : Nat → Int
  | 0 => 7
  | n + 1 => 11 * ssz n / 10 + 1
theorem ssz_bd : ∀ n, n ≤ 48 → 7 ≤ ssz n ∧ ssz n ≤ 2000 := by decide +kernel
def ssF (s : Int) : Int := if 0 ≤ s ∧ s ≤ 48 then ssz s.toNat else 0
/-- what a number of four bits moves by -/
def mvF (q : Nat) (s : Int) : Int := s / 8 + (if 4 ≤ q then s else 0) + (if 2 ≤ q % 4 then s / 2 else 0) + (if q % 2 = 1 then s / 4 else 0)
/-- how far the step goes -/
def chF (q : Nat) : Int := ([-1, -1, -1, -1, 2, 4, 6, 8] : List Int).getD q 0
def clip (x : Int) : Int := if x < -32767 then -32767 else if 32767 < x then 32767 else x
def clis (x : Int) : Int := if x < 0 then 0 else if 48 < x then 48 else x
/-- the coder behind a number -/
def nxF (c : Int × Int) (n : Int) : Int × Int :=
  (clip (c.1 + (if 8 ≤ n then -mvF (n % 8).toNat (ssF c.2) else mvF (n % 8).toNat (ssF c.2))), clis (c.2 + chF (n % 8).toNat))
/-- a coder that is one -/
def COk (c : Int × Int) : Prop := (-32767 ≤ c.1 ∧ c.1 ≤ 32767) ∧ (0 ≤ c.2 ∧ c.2 ≤ 48)
instance (c : Int × Int) : Decidable (COk c) := by unfold COk; infer_instance
theorem clip_bd (x : Int) : -32767 ≤ clip x ∧ clip x ≤ 32767 := by unfold clip; split <;> (try split) <;> omega
theorem clis_bd (x : Int) : 0 ≤ clis x ∧ clis x ≤ 48 := by unfold clis; split <;> (try split) <;> omega
theorem nx_ok (c : Int × Int) (n : Int) : COk (nxF c n) := ⟨clip_bd _, clis_bd _⟩
theorem ssF_bd {s : Int} (h : 0 ≤ s ∧ s ≤ 48) : 7 ≤ ssF s ∧ ssF s ≤ 2000 := by
  unfold ssF; rw [if_pos h]; exact ssz_bd _ (by omega)
theorem mvF_bd (q : Nat) (s : Int) (h : 7 ≤ s ∧ s ≤ 2000) : 0 ≤ mvF q s ∧ mvF q s ≤ 4000 := by
  unfold mvF; split <;> split <;> split <;> omega
theorem chF_bd (q : Nat) : -1 ≤ chF q ∧ chF q ≤ 8 := by
  unfold chF
  match q with
  | 0 => decide
  | 1 => decide
  | 2 => decide
  | 3 => decide
  | 4 => decide
  | 5 => decide
  | 6 => decide
  | 7 => decide
  | n + 8 => simp
/-- the size of a number -/
def abI (x : Int) : Int := if x < 0 then -x else x
/-- the number that a level is squeezed to -/
def sqN (c : Int × Int) (x : Int) : Int := (if x - c.1 < 0 then 8 else 0) + (if 7 < 4 * abI (x - c.1) / ssF c.2 then 7 else 4 * abI (x - c.1) / ssF c.2)
theorem sqN_bd (c : Int × Int) (x : Int) (h : 7 ≤ ssF c.2) : 0 ≤ sqN c x ∧ sqN c x ≤ 15 := by
  have h1 : 0 ≤ 4 * abI (x - c.1) / ssF c.2 := Int.ediv_nonneg (by unfold abI; split <;> omega) (by omega)
  unfold sqN; split <;> split <;> omega
/-- the numbers of levels -/
def sqL : Int × Int → List Int → List Int
  | _, [] => []
  | c, x :: r => sqN c x :: sqL (nxF c (sqN c x)) r
/-- the levels of numbers -/
def exL : Int × Int → List Int → List Int
  | _, [] => []
  | c, n :: r => (nxF c n).1 :: exL (nxF c n) r
/-- the coder behind numbers -/
def cdE (c : Int × Int) (ns : List Int) : Int × Int := ns.foldl nxF c
theorem sqL_len : ∀ (xs : List Int) (c : Int × Int), (sqL c xs).length = xs.length
  | [], _ => rfl
  | x :: r, c => by simp [sqL, sqL_len r]
theorem exL_len : ∀ (xs : List Int) (c : Int × Int), (exL c xs).length = xs.length
  | [], _ => rfl
  | x :: r, c => by simp [exL, exL_len r]
theorem cdE_app (c : Int × Int) (ns : List Int) (n : Int) : cdE c (ns ++ [n]) = nxF (cdE c ns) n := by simp [cdE]
theorem sqL_app : ∀ (xs : List Int) (c : Int × Int) (x : Int), sqL c (xs ++ [x]) = sqL c xs ++ [sqN (cdE c (sqL c xs)) x]
  | [], c, x => rfl
  | y :: r, c, x => by
    have := sqL_app r (nxF c (sqN c y)) x
    simp only [List.cons_append, sqL, this]
    rfl
theorem exL_app : ∀ (ns : List Int) (c : Int × Int) (n : Int), exL c (ns ++ [n]) = exL c ns ++ [(nxF (cdE c ns) n).1]
  | [], c, x => rfl
  | y :: r, c, x => by
    have := exL_app r (nxF c y) x
    simp only [List.cons_append, exL, this]
    rfl
theorem cdE_ok : ∀ (ns : List Int) {c : Int × Int}, COk c → COk (cdE c ns)
  | [], c, h => h
  | n :: r, c, h => by rw [cdE, List.foldl_cons]; exact cdE_ok r (nx_ok c n)
theorem sqL_take (c : Int × Int) (xs : List Int) (j : Nat) (hj : j < xs.length) : sqL c (xs.take (j + 1)) = sqL c (xs.take j) ++ [sqN (cdE c (sqL c (xs.take j))) xs[j]] := by
  rw [List.take_succ_eq_append_getElem hj, sqL_app]
theorem exL_take (c : Int × Int) (xs : List Int) (j : Nat) (hj : j < xs.length) : exL c (xs.take (j + 1)) = exL c (xs.take j) ++ [(nxF (cdE c (xs.take j)) xs[j]).1] := by
  rw [List.take_succ_eq_append_getElem hj, exL_app]
theorem cdE_take (c : Int × Int) (xs : List Int) (j : Nat) (hj : j < xs.length) : cdE c (xs.take (j + 1)) = nxF (cdE c (xs.take j)) xs[j] := by
  rw [List.take_succ_eq_append_getElem hj, cdE_app]
/-- the last level is the coder's -/
theorem exL_last : ∀ (ns : List Int) (c : Int × Int), ns ≠ [] → (exL c ns).getLast? = some (cdE c ns).1
  | [n], c, _ => rfl
  | n :: m :: r, c, _ => by
    have := exL_last (m :: r) (nxF c n) (by simp)
    rw [exL, cdE, List.foldl_cons]
    have h2 : exL (nxF c n) (m :: r) ≠ [] := by simp [exL]
    rw [List.getLast?_cons_of_ne_nil h2] 
    exact this
theorem sqL_bd : ∀ (xs : List Int) (c : Int × Int), COk c → ∀ n ∈ sqL c xs, 0 ≤ n ∧ n ≤ 15
  | [], _, _, n, h => by simp [sqL] at h
  | x :: r, c, hc, n, h => by
    simp only [sqL, List.mem_cons] at h
    rcases h with rfl | h
    · exact sqN_bd _ _ (ssF_bd hc.2).1
    · exact sqL_bd r _ (nx_ok _ _) n h

set_option maxHeartbeats 1600000 in
theorem stepM_c (s : Int) (w : World) : Calls Tryd.prog 64 #[.int .i64 s] w fun e w' => e = .returned (.int .i64 (ssF s)) ∧ w' = w := by
  by_cases h : 0 ≤ s ∧ s ≤ 48
  case neg =>
    have hd : decide (0 ≤ s ∧ s ≤ 48) = false := by simp; omega
    have HF : Hid (ssF s = 0) := by show _ = _; unfold ssF; rw [if_neg h]
    clear h
    go_enter Tryd.func64, Tryd.ntmps64
    go_wp2_with (fail)
    refine (in_c _ _ _ _).mono ?_
    rintro e w1 ⟨rfl, hw⟩
    rw [hd, hw]
    clear hw
    go_wp2
    go_ret
    exact ⟨by rw [HF.out]; rfl, rfl⟩
  case pos =>
  have hd : decide (0 ≤ s ∧ s ≤ 48) = true := by simp; omega
  obtain ⟨k, rfl⟩ := Int.eq_ofNat_of_zero_le h.1
  have HF : Hid (ssF k = ssz k) := by show _ = _; unfold ssF; rw [if_pos h]; rfl
  have hk : k ≤ 48 := by omega
  obtain ⟨PW, hPW⟩ : ∃ P : World → Prop, ∀ W, P W ↔ W = w := ⟨_, fun _ => Iff.rfl⟩
  have HPW : Hid (∀ W, PW W ↔ W = w) := hPW
  clear hPW h
  go_enter Tryd.func64, Tryd.ntmps64
  go_wp2_with (fail)
  refine (in_c _ _ _ _).mono ?_
  rintro e w1 ⟨rfl, hw⟩
  rw [hd, hw]
  clear hw hd
  go_wp2
  go_loopw [3, 4] (fun z i wr => ∃ j : Nat, j ≤ k ∧ i = .int .i64 j ∧ z = .int .i64 (ssz j) ∧ Hid (PW wr)) (fun _ i _ => k - (intOf i).toNat)
  case atStart => exact ⟨0, Nat.zero_le _, rfl, rfl, (HPW.out _).2 rfl⟩
  case round =>
    obtain ⟨j, hj, rfl, rfl, hw⟩ := hrel
    have hww := (HPW.out _).1 hw.out
    clear hw
    subst hww
    by_cases hlt : j < k
    · have hb := ssz_bd j (by omega)
      have HS : Hid (ssz (j + 1) = 11 * ssz j / 10 + 1) := rfl
      obtain ⟨x, hx⟩ : ∃ x, ssz j = x := ⟨_, rfl⟩
      rw [hx] at hb HS ⊢
      clear hx
      go_wp2
      go_roundw
      case rel => exact ⟨j + 1, by omega, by go_num, by rw [HS.out], (HPW.out _).2 rfl⟩
      case measure => simp [intOf]; omega
    · obtain rfl : k = j := by omega
      go_wp2
      go_ret
      exact ⟨by rw [HF.out]; rfl, rfl⟩
theorem nextSize_c (x : Int) (h0 : 7 ≤ x) (h1 : x ≤ 2000) (w : World) : Calls Tryd.prog 111 #[.int .i64 x] w fun e w' => e = .returned (.int .i64 (11 * x / 10 + 1)) ∧ w' = w := by
  have HE : Hid (11 * x / 10 + 1 = x * 11 / 10 + 1) := by show _ = _; rw [Int.mul_comm]
  go_enter Tryd.func111, Tryd.ntmps111
  go_wp2
  go_ret
  exact ⟨by rw [HE.out]; rfl, rfl⟩
set_option maxHeartbeats 1600000 in
theorem sizeOf_c (k : Nat) (hk : k ≤ 48) (w : World) : Calls Tryd.prog 99 #[.int .i64 k] w fun e w' => e = .returned (.int .i64 (ssz k)) ∧ w' = w := by
  obtain ⟨PW, hPW⟩ : ∃ P : World → Prop, ∀ W, P W ↔ W = w := ⟨_, fun _ => Iff.rfl⟩
  have HPW : Hid (∀ W, PW W ↔ W = w) := hPW
  clear hPW
  go_enter Tryd.func99, Tryd.ntmps99
  go_wp2
  go_loopw [3, 5] (fun z i wr => ∃ j : Nat, j ≤ k ∧ i = .int .i64 j ∧ z = .int .i64 (ssz j) ∧ Hid (PW wr)) (fun _ i _ => k - (intOf i).toNat)
  case atStart => exact ⟨0, Nat.zero_le _, rfl, rfl, (HPW.out _).2 rfl⟩
  case round =>
    obtain ⟨j, hj, rfl, rfl, hw⟩ := hrel
    have hww := (HPW.out _).1 hw.out
    clear hw
    subst hww
    by_cases hlt : j < k
    · have hb := ssz_bd j (by omega)
      have HS : Hid (ssz (j + 1) = 11 * ssz j / 10 + 1) := rfl
      obtain ⟨x, hx⟩ : ∃ x, ssz j = x := ⟨_, rfl⟩
      rw [hx] at hb HS ⊢
      clear hx
      go_wp2_with (fail)
      refine (nextSize_c x hb.1 hb.2 _).mono ?_
      rintro e w1 ⟨rfl, hw⟩
      rw [hw]
      clear hw w1
      go_wp2
      go_roundw
      case rel => exact ⟨j + 1, by omega, by go_num, by rw [HS.out], (HPW.out _).2 rfl⟩
      case measure => simp [intOf]; omega
    · obtain rfl : k = j := by omega
      go_wp2
      go_ret
      exact ⟨rfl, rfl⟩
theorem sizeF_c (s : Int) (h : 0 ≤ s ∧ s ≤ 48) (w : World) : Calls Tryd.prog 99 #[.int .i64 s] w fun e w' => e = .returned (.int .i64 (ssF s)) ∧ w' = w := by
  obtain ⟨k, rfl⟩ := Int.eq_ofNat_of_zero_le h.1
  have HF : ssF k = ssz k := by unfold ssF; rw [if_pos h]; rfl
  rw [HF]
  exact sizeOf_c k (by omega) w
theorem bit_facts : ∀ q : Nat, q < 8 → ((bits .and .i64 (q : Int) 4 != 0) = decide (4 ≤ q)) ∧ ((bits .and .i64 (q : Int) 2 != 0) = decide (2 ≤ q % 4)) ∧ ((bits .and .i64 (q : Int) 1 != 0) = decide (q % 2 = 1)) := by decide +kernel
set_option maxHeartbeats 1600000 in
theorem move_c (q : Nat) (hq : q < 8) (s : Int) (h0 : 7 ≤ s) (h1 : s ≤ 2000) (w : World) : Calls Tryd.prog 100 #[.int .i64 q, .int .i64 s] w fun e w' => e = .returned (.int .i64 (mvF q s)) ∧ w' = w := by
  obtain ⟨b4, b2, b1⟩ := bit_facts q hq
  have HM : Hid (mvF q s = s / 8 + (if 4 ≤ q then s else 0) + (if 2 ≤ q % 4 then s / 2 else 0) + (if q % 2 = 1 then s / 4 else 0)) := rfl
  by_cases c4 : 4 ≤ q <;> by_cases c2 : 2 ≤ q % 4 <;> by_cases c1 : q % 2 = 1
  all_goals
    have hm := HM.out
    simp only [c4, c2, c1, if_true, if_false] at hm
    have HX : Hid (mvF q s = _) := hm
    simp only [c4, c2, c1, decide_true, decide_false] at b4 b2 b1
    clear hm c4 c2 c1 HM hq
    go_enter Tryd.func100, Tryd.ntmps100
    go_wp2
    go_ret
    refine ⟨?_, rfl⟩
    rw [HX.out]
    first | rfl | (simp; done) | (congr 2; omega)
/-- what the table holds -/
def ChG (w : World) : Prop := ∀ q : Nat, q < 8 → w.cell? ⟨0, q, none⟩ = some (.int .i64 (chF q))

end Go.Proofs.YtkjfcebdjnclaaaDoor
