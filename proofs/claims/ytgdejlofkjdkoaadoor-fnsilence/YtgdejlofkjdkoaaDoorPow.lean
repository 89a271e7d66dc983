/- Powers; no condition. -/
import Derived.Test.YtgdejlofkjdkoaaDoorQrt
import Derived.Test.YtgdejlofkjdkoaaDoorTbl
import Derived.Test.YtgdejlofkjdkoaaDoorMixT
namespace Go.Proofs.YtgdejlofkjdkoaaDoor
open Go.RowKit Go.ChangeShapes Go.WideShapes Go.ChangeAt
set_option linter.unusedVariables false
set_option linter.unusedSimpArgs false
set_option maxRecDepth 8000

/-- the sum of the first j levels, each times the wave of its place times st, less o -/
def sX (zs : List Int) (st o : Int) : Nat → Int
  | 0 => 0
  | j + 1 => sX zs st o j + zs.getD j 0 * wave (j * st - o)
def lvP (zs : List Int) : Prop := ∀ j, j < zs.length → -32767 ≤ zs.getD j 0 ∧ zs.getD j 0 ≤ 32767
theorem mul_bd {a b A B : Int} (ha : -A ≤ a ∧ a ≤ A) (hb : -B ≤ b ∧ b ≤ B) : -(A * B) ≤ a * b ∧ a * b ≤ A * B := by
  have hA : 0 ≤ A := by omega
  have hB : 0 ≤ B := by omega
  have h1 : a.natAbs ≤ A.natAbs := by omega
  have h2 : b.natAbs ≤ B.natAbs := by omega
  have h3 : (a * b).natAbs ≤ A.natAbs * B.natAbs := by rw [Int.natAbs_mul]; exact Nat.mul_le_mul h1 h2
  have h4 : ((A.natAbs * B.natAbs : Nat) : Int) = A * B := by
    rw [Int.natCast_mul, Int.natAbs_of_nonneg hA, Int.natAbs_of_nonneg hB]
  omega
theorem tm_bd {zs : List Int} (h : lvP zs) (st o : Int) (j : Nat) (hj : j < zs.length) : -35183298347008 ≤ zs.getD j 0 * wave (j * st - o) ∧ zs.getD j 0 * wave (j * st - o) ≤ 35183298347008 := by
  have := mul_bd (h j hj) (wave_bd (j * st - o))
  omega
theorem sX_bd {zs : List Int} (h : lvP zs) (st o : Int) : ∀ j, j ≤ zs.length → -(35183298347008 * (j : Int)) ≤ sX zs st o j ∧ sX zs st o j ≤ 35183298347008 * j
  | 0, _ => by simp [sX]
  | j + 1, hj => by
    have h1 := sX_bd h st o j (by omega)
    have h2 := tm_bd h st o j (by omega)
    simp only [sX]
    omega
/-- the power at a step -/
def pw (zs : List Int) (st : Int) : Int := (sX zs st 0 zs.length / 1073741824) * (sX zs st 0 zs.length / 1073741824) + (sX zs st 64 zs.length / 1073741824) * (sX zs st 64 zs.length / 1073741824)

set_option maxHeartbeats 6400000 in
theorem powM_c (vt vz : Value) (zs : List Int) (st : Int) (h0 : 0 ≤ st) (h1 : st ≤ 255) (hl : zs.length ≤ 128) (hlv : lvP zs) (w : World) (ht : Rd .i64 w vt wvR) (hz : Rd .i64 w vz zs) : Calls Tryd.prog 40 #[vt, vz, .int .i64 st] w fun e w' => e = .returned (.int .i64 (pw zs st)) ∧ Below w.heap.size w w' := by
  obtain ⟨a, cap, rfl, z1, z2, z3⟩ := hz
  unfold maxLen at z2
  have HT : Hid (Rd .i64 w vt wvR) := ht
  obtain ⟨at', capt, rfl, -⟩ := ht
  have HLV : Hid (lvP zs) := hlv
  clear hlv
  go_enter Tryd.func40, Tryd.ntmps40
  go_wp2
  go_loopw [7, 8, 9] (fun x y i wr => ∃ j : Nat, j ≤ zs.length ∧ i = .int .i64 j ∧ x = .int .i64 (sX zs st 0 j) ∧ y = .int .i64 (sX zs st 64 j) ∧ Hid (Below w.heap.size w wr)) (fun _ _ i _ => zs.length - (intOf i).toNat)
  case atStart => exact ⟨0, Nat.zero_le _, rfl, rfl, rfl, Below.refl _ _⟩
  case round =>
    obtain ⟨j, hj, rfl, rfl, rfl, hbr⟩ := hrel
    by_cases hlt : j < zs.length
    case neg =>
      obtain rfl : j = zs.length := by omega
      have bx := sX_bd HLV.out st 0 zs.length (Nat.le_refl _)
      have by' := sX_bd HLV.out st 64 zs.length (Nat.le_refl _)
      have HP : Hid (pw zs st = (sX zs st 0 zs.length / 1073741824) * (sX zs st 0 zs.length / 1073741824) + (sX zs st 64 zs.length / 1073741824) * (sX zs st 64 zs.length / 1073741824)) := rfl
      obtain ⟨X, hX⟩ : ∃ X, sX zs st 0 zs.length = X := ⟨_, rfl⟩
      obtain ⟨Y, hY⟩ : ∃ Y, sX zs st 64 zs.length = Y := ⟨_, rfl⟩
      rw [hX] at bx HP ⊢
      rw [hY] at by' HP ⊢
      clear hX hY z3
      go_wp2_with (fail)
      refine (floorM_c X (by omega) (by omega) _).mono ?_
      rintro e w4 ⟨rfl, hw⟩
      rw [hw]
      clear hw w4
      go_wp2_with (fail)
      refine (floorM_c Y (by omega) (by omega) _).mono ?_
      rintro e w4 ⟨rfl, hw⟩
      rw [hw]
      clear hw w4
      have bp : -4194304 ≤ X / 1073741824 ∧ X / 1073741824 ≤ 4194304 := by omega
      have bq : -4194304 ≤ Y / 1073741824 ∧ Y / 1073741824 ≤ 4194304 := by omega
      have br := mul_bd bp bp
      have bs := mul_bd bq bq
      go_wp2
      go_ret
      exact ⟨by rw [HP.out]; rfl, hbr.out⟩
    case pos =>
    rcases z3 with z3 | ⟨b, off, rfl, z4⟩
    · subst z3; simp at hlt
    have hi1 : (0 : Int) ≤ (j : Int) := by omega
    have hi2 : (j : Int) < (zs.length : Int) := by omega
    have hx0 := HLV.out j hlt
    have HX : Hid (sX zs st 0 (j + 1) = sX zs st 0 j + zs.getD j 0 * wave (j * st - 0)) := rfl
    have HY : Hid (sX zs st 64 (j + 1) = sX zs st 64 j + zs.getD j 0 * wave (j * st - 64)) := rfl
    have bx := sX_bd HLV.out st 0 j hj
    have by' := sX_bd HLV.out st 64 j hj
    have bt := tm_bd HLV.out st 0 j hlt
    have bu := tm_bd HLV.out st 64 j hlt
    have hc : wr.cell? ⟨b, off + j, none⟩ = some (.int .i64 (zs.getD j 0)) := by
      have := z4 j hlt
      rw [hbr.out.cell (block_lt_of_cell this)]; exact this
    obtain ⟨x, hx⟩ : ∃ x, zs.getD j 0 = x := ⟨_, rfl⟩
    obtain ⟨X, hX⟩ : ∃ X, sX zs st 0 j = X := ⟨_, rfl⟩
    obtain ⟨Y, hY⟩ : ∃ Y, sX zs st 64 j = Y := ⟨_, rfl⟩
    have hst : 0 ≤ (j : Int) * st ∧ (j : Int) * st ≤ 128 * 255 := by
      have h5 : (j : Int) ≤ 128 := by omega
      exact ⟨Int.mul_nonneg (by omega) h0, Int.mul_le_mul h5 h1 h0 (by omega)⟩
    rw [Int.sub_zero] at HX bt
    obtain ⟨p0, hp0⟩ : ∃ p, wave (j * st) = p := ⟨_, rfl⟩
    obtain ⟨p1, hp1⟩ : ∃ p, wave (j * st - 64) = p := ⟨_, rfl⟩
    obtain ⟨js, hjs⟩ : ∃ q, (j : Int) * st = q := ⟨_, rfl⟩
    rw [hX] at HX bx ⊢
    rw [hY] at HY by' ⊢
    rw [hx] at hc hx0 HX HY bt bu
    have W0 : wave js = p0 := by rw [← hjs]; exact hp0
    have W64 : wave (js - 64) = p1 := by rw [← hjs]; exact hp1
    have q0 := wave_bd js
    have q1 := wave_bd (js - 64)
    rw [W0] at q0
    rw [W64] at q1
    rw [hp0] at HX bt
    rw [hp1] at HY bu
    rw [hjs] at hst
    have hj2 : (j : Int) ≤ 128 := by omega
    obtain ⟨m0, hm0⟩ : ∃ m, x * p0 = m := ⟨_, rfl⟩
    obtain ⟨m1, hm1⟩ : ∃ m, x * p1 = m := ⟨_, rfl⟩
    rw [hm0] at HX bt
    rw [hm1] at HY bu
    clear z4 hx hX hY hp0 hp1

    obtain ⟨S0, hS0⟩ : ∃ S : World → Prop, ∀ W, S W ↔ W = wr.drew := ⟨_, fun _ => Iff.rfl⟩
    have y0 : ∀ W : At S0, W.wd.cell? ⟨b, off + j, none⟩ = some (.int .i64 x) := fun W => by rw [(hS0 _).1 W.ok]; exact hc
    have HS0 : Hid (S0 wr.drew) := (hS0 _).2 rfl
    have ne0 : Nonempty (At S0) := ⟨⟨_, HS0.out⟩⟩
    clear hS0
    go_wp2
    refine region_mixT [true, true, true, true, true, true, true, true, true, false, false, false, false] 12 3 S0 (by kernel_rfl) rfl (by kernel_rfl) (fun _ _ _ _ _ h => h) HS0.out ?_
    simp only [selT, selF]
    try simp only [Act.put]
    repeat (go_big_quiet_step (fail))
    refine wpQuiet_nil ?_
    refine tail_step ?_
    go_wp2_with (fail)
    refine (atM_c _ js (by omega) (by omega) wr.drew (HT.out.below hbr.out.drew)).mono ?_
    rintro e w4 ⟨rfl, hw⟩
    rw [hw]
    clear hw w4
    rw [W0]
    go_wp2
    refine ⟨HS0.out, tail_step ?_⟩
    go_wp2
    refine ⟨HS0.out, tail_step ?_⟩
    go_wp2
    refine ⟨HS0.out, tail_end ?_⟩
    clear y0 ne0
    obtain ⟨S64, hS64⟩ : ∃ S : World → Prop, ∀ W, S W ↔ W = wr.drew.drew := ⟨_, fun _ => Iff.rfl⟩
    have y64 : ∀ W : At S64, W.wd.cell? ⟨b, off + j, none⟩ = some (.int .i64 x) := fun W => by rw [(hS64 _).1 W.ok]; exact hc
    have HS64 : Hid (S64 wr.drew.drew) := (hS64 _).2 rfl
    have ne64 : Nonempty (At S64) := ⟨⟨_, HS64.out⟩⟩
    clear hS64
    go_wp2
    refine region_mixT [true, true, true, true, true, true, true, true, true, true, false, false, false, false] 13 3 S64 (by kernel_rfl) rfl (by kernel_rfl) (fun _ _ _ _ _ h => h) HS64.out ?_
    simp only [selT, selF]
    try simp only [Act.put]
    repeat (go_big_quiet_step (fail))
    refine wpQuiet_nil ?_
    refine tail_step ?_
    go_wp2_with (fail)
    refine (atM_c _ (js - 64) (by omega) (by omega) wr.drew.drew (HT.out.below hbr.out.drew.drew)).mono ?_
    rintro e w4 ⟨rfl, hw⟩
    rw [hw]
    clear hw w4
    rw [W64]
    go_wp2
    refine ⟨HS64.out, tail_step ?_⟩
    go_wp2
    refine ⟨HS64.out, tail_step ?_⟩
    go_wp2
    refine ⟨HS64.out, tail_end ?_⟩
    clear y64 ne64
    go_wp2
    go_roundw
    case rel => exact ⟨j + 1, by omega, by go_num, by rw [HX.out], by rw [HY.out], hbr.out.drew.drew⟩
    case measure => simp [intOf]; omega

set_option maxHeartbeats 6400000 in
theorem powI_c (g : Nat) (vz : Value) (zs : List Int) (st : Int) (h0 : 0 ≤ st) (h1 : st ≤ 255) (hl : zs.length ≤ 128) (hlv : lvP zs) (w : World) (ht : Qt w g) (hz : Rd .i64 w vz zs) : Calls Tryd.prog 44 #[vz, .pointer (some ⟨g, 0, none⟩), .int .i64 st] w fun e w' => e = .returned (.int .i64 (pw zs st)) ∧ Below w.heap.size w w' := by
  obtain ⟨a, cap, rfl, z1, z2, z3⟩ := hz
  unfold maxLen at z2
  have HT : Hid (Qt w g) := ht
  have HLV : Hid (lvP zs) := hlv
  clear hlv ht
  go_enter Tryd.func44, Tryd.ntmps44
  go_wp2
  go_loopw [7, 8, 12] (fun x y i wr => ∃ j : Nat, j ≤ zs.length ∧ i = .int .i64 j ∧ x = .int .i64 (sX zs st 0 j) ∧ y = .int .i64 (sX zs st 64 j) ∧ Hid (Below w.heap.size w wr)) (fun _ _ i _ => zs.length - (intOf i).toNat)
  case atStart => exact ⟨0, Nat.zero_le _, rfl, rfl, rfl, Below.refl _ _⟩
  case round =>
    obtain ⟨j, hj, rfl, rfl, rfl, hbr⟩ := hrel
    by_cases hlt : j < zs.length
    case neg =>
      obtain rfl : j = zs.length := by omega
      have bx := sX_bd HLV.out st 0 zs.length (Nat.le_refl _)
      have by' := sX_bd HLV.out st 64 zs.length (Nat.le_refl _)
      have HP : Hid (pw zs st = (sX zs st 0 zs.length / 1073741824) * (sX zs st 0 zs.length / 1073741824) + (sX zs st 64 zs.length / 1073741824) * (sX zs st 64 zs.length / 1073741824)) := rfl
      obtain ⟨X, hX⟩ : ∃ X, sX zs st 0 zs.length = X := ⟨_, rfl⟩
      obtain ⟨Y, hY⟩ : ∃ Y, sX zs st 64 zs.length = Y := ⟨_, rfl⟩
      rw [hX] at bx HP ⊢
      rw [hY] at by' HP ⊢
      clear hX hY z3
      go_wp2_with (fail)
      refine (downI_c X _).mono ?_
      rintro e w4 ⟨rfl, hw⟩
      rw [hw]
      clear hw w4
      go_wp2_with (fail)
      refine (downI_c Y _).mono ?_
      rintro e w4 ⟨rfl, hw⟩
      rw [hw]
      clear hw w4
      have bp : -4194304 ≤ X / 1073741824 ∧ X / 1073741824 ≤ 4194304 := by omega
      have bq : -4194304 ≤ Y / 1073741824 ∧ Y / 1073741824 ≤ 4194304 := by omega
      have br := mul_bd bp bp
      have bs := mul_bd bq bq
      go_wp2
      go_ret
      exact ⟨by rw [HP.out]; rfl, hbr.out⟩
    case pos =>
    rcases z3 with z3 | ⟨b, off, rfl, z4⟩
    · subst z3; simp at hlt
    have hi1 : (0 : Int) ≤ (j : Int) := by omega
    have hi2 : (j : Int) < (zs.length : Int) := by omega
    have hx0 := HLV.out j hlt
    have HX : Hid (sX zs st 0 (j + 1) = sX zs st 0 j + zs.getD j 0 * wave (j * st - 0)) := rfl
    have HY : Hid (sX zs st 64 (j + 1) = sX zs st 64 j + zs.getD j 0 * wave (j * st - 64)) := rfl
    have bx := sX_bd HLV.out st 0 j hj
    have by' := sX_bd HLV.out st 64 j hj
    have bt := tm_bd HLV.out st 0 j hlt
    have bu := tm_bd HLV.out st 64 j hlt
    have hc : wr.cell? ⟨b, off + j, none⟩ = some (.int .i64 (zs.getD j 0)) := by
      have := z4 j hlt
      rw [hbr.out.cell (block_lt_of_cell this)]; exact this
    obtain ⟨x, hx⟩ : ∃ x, zs.getD j 0 = x := ⟨_, rfl⟩
    obtain ⟨X, hX⟩ : ∃ X, sX zs st 0 j = X := ⟨_, rfl⟩
    obtain ⟨Y, hY⟩ : ∃ Y, sX zs st 64 j = Y := ⟨_, rfl⟩
    have hst : 0 ≤ (j : Int) * st ∧ (j : Int) * st ≤ 128 * 255 := by
      have h5 : (j : Int) ≤ 128 := by omega
      exact ⟨Int.mul_nonneg (by omega) h0, Int.mul_le_mul h5 h1 h0 (by omega)⟩
    rw [Int.sub_zero] at HX bt
    obtain ⟨p0, hp0⟩ : ∃ p, wave (j * st) = p := ⟨_, rfl⟩
    obtain ⟨p1, hp1⟩ : ∃ p, wave (j * st - 64) = p := ⟨_, rfl⟩
    obtain ⟨js, hjs⟩ : ∃ q, (j : Int) * st = q := ⟨_, rfl⟩
    rw [hX] at HX bx ⊢
    rw [hY] at HY by' ⊢
    rw [hx] at hc hx0 HX HY bt bu
    have W0 : wave js = p0 := by rw [← hjs]; exact hp0
    have W64 : wave (js - 64) = p1 := by rw [← hjs]; exact hp1
    have q0 := wave_bd js
    have q1 := wave_bd (js - 64)
    rw [W0] at q0
    rw [W64] at q1
    rw [hp0] at HX bt
    rw [hp1] at HY bu
    rw [hjs] at hst
    have hj2 : (j : Int) ≤ 128 := by omega
    obtain ⟨m0, hm0⟩ : ∃ m, x * p0 = m := ⟨_, rfl⟩
    obtain ⟨m1, hm1⟩ : ∃ m, x * p1 = m := ⟨_, rfl⟩
    rw [hm0] at HX bt
    rw [hm1] at HY bu
    clear z4 hx hX hY hp0 hp1

    obtain ⟨S0, hS0⟩ : ∃ S : World → Prop, ∀ W, S W ↔ W = wr.drew := ⟨_, fun _ => Iff.rfl⟩
    have y0 : ∀ W : At S0, W.wd.cell? ⟨b, off + j, none⟩ = some (.int .i64 x) := fun W => by rw [(hS0 _).1 W.ok]; exact hc
    have HS0 : Hid (S0 wr.drew) := (hS0 _).2 rfl
    have ne0 : Nonempty (At S0) := ⟨⟨_, HS0.out⟩⟩
    clear hS0
    go_wp2
    refine region_mixT [true, true, true, true, true, true, true, true, true, false, false, false, false] 12 3 S0 (by kernel_rfl) rfl (by kernel_rfl) (fun _ _ _ _ _ h => h) HS0.out ?_
    simp only [selT, selF]
    try simp only [Act.put]
    repeat (go_big_quiet_step (fail))
    refine wpQuiet_nil ?_
    refine tail_step ?_
    go_wp2_with (fail)
    refine (qatI_c g js (by omega) (by omega) wr.drew (HT.out.below hbr.out.drew)).mono ?_
    rintro e w4 ⟨rfl, hw⟩
    rw [hw]
    clear hw w4
    rw [W0]
    go_wp2
    refine ⟨HS0.out, tail_step ?_⟩
    go_wp2
    refine ⟨HS0.out, tail_step ?_⟩
    go_wp2
    refine ⟨HS0.out, tail_end ?_⟩
    clear y0 ne0
    obtain ⟨S64, hS64⟩ : ∃ S : World → Prop, ∀ W, S W ↔ W = wr.drew.drew := ⟨_, fun _ => Iff.rfl⟩
    have y64 : ∀ W : At S64, W.wd.cell? ⟨b, off + j, none⟩ = some (.int .i64 x) := fun W => by rw [(hS64 _).1 W.ok]; exact hc
    have HS64 : Hid (S64 wr.drew.drew) := (hS64 _).2 rfl
    have ne64 : Nonempty (At S64) := ⟨⟨_, HS64.out⟩⟩
    clear hS64
    go_wp2
    refine region_mixT [true, true, true, true, true, true, true, true, true, true, false, false, false, false] 13 3 S64 (by kernel_rfl) rfl (by kernel_rfl) (fun _ _ _ _ _ h => h) HS64.out ?_
    simp only [selT, selF]
    try simp only [Act.put]
    repeat (go_big_quiet_step (fail))
    refine wpQuiet_nil ?_
    refine tail_step ?_
    go_wp2_with (fail)
    refine (qatI_c g (js - 64) (by omega) (by omega) wr.drew.drew (HT.out.below hbr.out.drew.drew)).mono ?_
    rintro e w4 ⟨rfl, hw⟩
    rw [hw]
    clear hw w4
    rw [W64]
    go_wp2
    refine ⟨HS64.out, tail_step ?_⟩
    go_wp2
    refine ⟨HS64.out, tail_step ?_⟩
    go_wp2
    refine ⟨HS64.out, tail_end ?_⟩
    clear y64 ne64
    go_wp2
    go_roundw
    case rel => exact ⟨j + 1, by omega, by go_num, by rw [HX.out], by rw [HY.out], hbr.out.drew.drew⟩
    case measure => simp [intOf]; omega


end Go.Proofs.YtgdejlofkjdkoaaDoor
