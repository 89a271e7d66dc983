/- Draws; no condition. -/
import Derived.Test.YtikgempdohpdjaaSl
namespace Go.Proofs.Ytikgempdohpdjaa
open Go.RowKit Go.ChangeShapes Go.WideShapes Go.ChangeAt
set_option linter.unusedVariables false
set_option linter.unusedSimpArgs false
set_option maxRecDepth 8000
set_option linter.unusedVariables false
set_option linter.unusedSimpArgs false
/-- block g holds a cursor over the bytes zs, which the slice cv reads as -/
structure Dr (w : World) (g : Nat) (cv : Value) (zs : List Int) : Prop where
  cur : ∃ i h : Int, Blk w g #[cv, .int .i64 i, .int .i64 h] 85 ∧ 0 ≤ i ∧ i ≤ zs.length
  rd : Rd .u8 w cv zs
  ap : zs = [] ∨ cv.ownBlock = none ∨ cv.ownBlock ≠ some g
  ok : ∀ z ∈ zs, 0 ≤ z ∧ z ≤ 255
  len : zs.length ≤ 2097152
theorem i64_and255 (n : Int) : bits .and .i64 n 255 = n % 256 := by
  have h255 : (BitVec.ofInt 64 255).toNat = 2 ^ 8 - 1 := by decide
  have key : (BitVec.ofInt 64 n &&& BitVec.ofInt 64 255).toNat = (n % ((2 ^ 64 : Nat) : Int)).toNat % 2 ^ 8 := by
    rw [BitVec.toNat_and, BitVec.toNat_ofInt, h255, Nat.and_two_pow_sub_one_eq_mod]
  show IntKind.i64.wrap ((BitVec.ofInt 64 n &&& BitVec.ofInt 64 255).toNat : Nat) = n % 256
  rw [key, IntKind.wrap_i64]
  omega
theorem and255 (x : Int) : 0 ≤ bits .and .i64 x 255 ∧ bits .and .i64 x 255 ≤ 255 := by rw [i64_and255]; omega
theorem dgrown_set (w : World) (g k : Nat) (x : Value) : w.grownBy (w.setCell ⟨g, k, none⟩ x) (some g) :=
  ⟨rfl, rfl, rfl, by simp, fun i _ hi => heap_setCell_other w ⟨g, k, none⟩ i x (fun e => hi (by simp [e]))⟩
theorem grown_drewN {w w' : World} {row : Option Nat} (h : w.grownBy w' row) (n : Nat) : w.grownBy (w'.drewN n) row := ⟨h.os, h.tape, h.output, h.size, h.block⟩
theorem grown_alloc {w w' : World} {row : Option Nat} (h : w.grownBy w' row) (o : Obj) : w.grownBy (w'.alloc o) row := grown_trans h (World.grownBy_alloc w' o row)
theorem Rd.grownE {k : IntKind} {w w' : World} {v : Value} {zs : List Int} {row : Option Nat} (h : Rd k w v zs) (hg : w.grownBy w' row) (hne : zs = [] ∨ v.ownBlock = none ∨ v.ownBlock ≠ row) : Rd k w' v zs := by
  rcases hne with h0 | hne
  · obtain ⟨a, cap, h1, h2, h3, _⟩ := h
    exact ⟨a, cap, h1, h2, h3, .inl h0⟩
  · exact h.grown hg hne
/-- a cursor, behind what turned nothing but it -/
theorem Dr.of {w w' : World} {g : Nat} {cv : Value} {zs : List Int} (h : Dr w g cv zs) (hg : w.grownBy w' (some g)) (hc : ∃ i h : Int, Blk w' g #[cv, .int .i64 i, .int .i64 h] 85 ∧ 0 ≤ i ∧ i ≤ zs.length) : Dr w' g cv zs :=
  ⟨hc, h.rd.grownE hg h.ap, h.ap, h.ok, h.len⟩
theorem Dr.lt {w : World} {g : Nat} {cv : Value} {zs : List Int} (h : Dr w g cv zs) : g < w.heap.size := by obtain ⟨i, hh, k, _⟩ := h.cur; exact k.lt
/-- a cursor, behind what turned nothing old -/
theorem Dr.below {w w' : World} {g : Nat} {cv : Value} {zs : List Int} (h : Dr w g cv zs) (hb : Below w.heap.size w w') : Dr w' g cv zs := by
  obtain ⟨i, hh, k, h1, h2⟩ := h.cur
  exact ⟨⟨i, hh, k.below hb k.lt, h1, h2⟩, h.rd.below hb, h.ap, h.ok, h.len⟩
set_option maxHeartbeats 1600000 in
theorem byte_c (g : Nat) (cv : Value) (zs : List Int) (w : World) (h : Dr w g cv zs) :
   Calls Try.prog 68 #[.pointer (some ⟨g, 0, none⟩)] w fun e w' => ∃ x : Int, e = .returned (.int .i64 x) ∧ 0 ≤ x ∧ x ≤ 255 ∧ Dr w' g cv zs ∧ w.grownBy w' (some g) := by
  have hD := h
  obtain ⟨⟨i, hh, k0, hi0, hi1⟩, hrd, hap, hok, hlen⟩ := h
  obtain ⟨a, cap, rfl, h1, h2, h3⟩ := hrd
  unfold maxLen at h2
  obtain ⟨ii, rfl⟩ := Int.eq_ofNat_of_zero_le hi0
  have c0 := k0.cell 0
  have c1 := k0.cell 1
  have c2 := k0.cell 2
  simp at c0 c1 c2
  have f1 := k0.frozen 1
  have f2 := k0.frozen 2
  have HD : Hid (Dr w g (.slice a zs.length cap) zs) := hD
  clear hD hok
  by_cases hlt : ii < zs.length
  · rcases h3 with h3 | ⟨b, off, rfl, h4⟩
    · subst h3; simp at hlt
    have hc := h4 ii hlt
    have hne : b ≠ g := by
      rcases hap with hap | hap
      · subst hap; simp at hlt
      · simpa [Value.ownBlock] using hap
    have hc' : ∀ x, (w.setCell ⟨g, 2, none⟩ x).cell? ⟨b, off + ii, none⟩ = some (.int .u8 (zs.getD ii 0)) := by
      intro x; rw [World.cell?_setCell_other _ _ _ _ (by intro e; injection e with e1; exact hne e1.symm)]; exact hc
    have hltI : (ii : Int) < (zs.length : Int) := by omega
    clear h4 hc
    go_enter Try.func68, Try.ntmps68
    go_wp2
    go_quiet (fail)
    go_wp2
    go_quiet (fail)
    go_wp2
    go_quiet (fail)
    go_wp2
    go_ret
    refine ⟨_, rfl, (and255 _).1, (and255 _).2, ?_⟩
    have hg : ∀ n, w.grownBy (((w.setCell ⟨g, 2, none⟩ (Value.int IntKind.i64 (wrap64 (wrap64 (hh * 6364136223846793005) + 1442695040888963407)))).drewN n).setCell ⟨g, 1, none⟩ (.int .i64 ((ii : Int) + 1))) (some g) := fun n => grown_trans (grown_drewN (dgrown_set _ _ _ _) n) (dgrown_set _ _ _ _)
    exact ⟨HD.out.of (hg _) ⟨(ii : Int) + 1, _, by simpa using (((k0.set 2 _).drewN _).set 1 (.int .i64 ((ii : Int) + 1))), by omega, by omega⟩, hg _⟩
  · have hltI : ¬ (ii : Int) < (zs.length : Int) := by omega
    have hd : decide ((ii : Int) < (zs.length : Int)) = false := by simp; omega
    clear h3
    go_enter Try.func68, Try.ntmps68
    go_wp2
    go_quiet (fail)
    go_wp2
    go_quiet (fail)
    go_wp2
    go_ret
    refine ⟨_, rfl, (and255 _).1, (and255 _).2, ?_⟩
    have hg : ∀ n n', w.grownBy (((w.setCell ⟨g, 2, none⟩ (Value.int IntKind.i64 (wrap64 (wrap64 (hh * 6364136223846793005) + 1442695040888963407)))).drewN n).drewN n') (some g) := fun n n' => grown_drewN (grown_drewN (dgrown_set _ _ _ _) n) n'
    exact ⟨HD.out.of (hg _ _) ⟨(ii : Int), _, by simpa using (((k0.set 2 _).drewN _).drewN _), by omega, by omega⟩, hg _ _⟩
set_option maxHeartbeats 1600000 in
theorem below_c (g : Nat) (cv : Value) (zs : List Int) (n : Int) (w : World) (h : Dr w g cv zs) (hn : n ≤ 1099511627776) :
   Calls Try.prog 45 #[.pointer (some ⟨g, 0, none⟩), .int .i64 n] w fun e w' => ∃ x : Int, e = .returned (.int .i64 x) ∧ 0 ≤ x ∧ (0 < n → x < n) ∧ (n ≤ 0 → x = 0) ∧ Dr w' g cv zs ∧ w.grownBy w' (some g) := by
  by_cases h0 : n ≤ 0
  · go_enter Try.func45, Try.ntmps45
    go_wp2
    go_ret
    exact ⟨_, rfl, by omega, by omega, fun _ => rfl, h, grown_refl _ _⟩
  · have h0' : ¬ n ≤ 0 := h0
    by_cases h256 : n ≤ 256
    · go_enter Try.func45, Try.ntmps45
      go_wp2_with fail
      refine (byte_c g cv zs _ h).mono ?_
      rintro e w1 ⟨x, rfl, x0, x1, d1, g1⟩
      go_wp2
      go_ret
      exact ⟨_, rfl, Int.emod_nonneg _ (by omega), fun _ => Int.emod_lt_of_pos _ (by omega), fun h => by omega, d1, g1⟩
    · go_enter Try.func45, Try.ntmps45
      go_wp2_with fail
      refine (byte_c g cv zs _ h).mono ?_
      rintro e w1 ⟨x, rfl, x0, x1, d1, g1⟩
      go_wp2_with fail
      refine (byte_c g cv zs _ d1).mono ?_
      rintro e w2 ⟨y, rfl, y0, y1, d2, g2⟩
      go_wp2_with fail
      refine (byte_c g cv zs _ d2).mono ?_
      rintro e w3 ⟨z, rfl, z0, z1, d3, g3⟩
      go_wp2_with fail
      refine (byte_c g cv zs _ d3).mono ?_
      rintro e w4 ⟨u, rfl, u0, u1, d4, g4⟩
      go_wp2
      go_ret
      exact ⟨_, rfl, Int.emod_nonneg _ (by omega), fun _ => Int.emod_lt_of_pos _ (by omega), fun h => by omega, d4, grown_trans (grown_trans (grown_trans g1 g2) g3) g4⟩
set_option maxHeartbeats 1600000 in
set_option maxHeartbeats 1600000 in
theorem new_c (v : Value) (zs : List Int) (w : World) (h : Rd .u8 w v zs) (hok : ∀ z ∈ zs, 0 ≤ z ∧ z ≤ 255) (hlen : zs.length ≤ 2097152) :
   Calls Try.prog 43 #[v] w fun e w' => ∃ g, e = .returned (.pointer (some ⟨g, 0, none⟩)) ∧ Dr w' g v zs ∧ w.heap.size ≤ g ∧ Below w.heap.size w w' := by
  have hR := h
  obtain ⟨a, cap, rfl, h1, h2, h3⟩ := h
  unfold maxLen at h2
  have HR : Hid (Rd .u8 w (.slice a zs.length cap) zs) := hR
  clear hR
  go_enter Try.func43, Try.ntmps43
  go_wp2
  go_loop [3, 4] (fun s i => ∃ (j : Nat) (t : Int), j ≤ zs.length ∧ i = .int .i64 j ∧ s = .int .i64 t) (fun _ i => zs.length - (intOf i).toNat)
  case atStart => exact ⟨0, _, Nat.zero_le _, rfl, rfl⟩
  case round =>
    obtain ⟨j, t, hj, rfl, rfl⟩ := hrel
    have fin : ∀ (t : Int), Dr (w.alloc (.cells #[.slice a zs.length cap, .int .i64 0, .int .i64 t] 85)) w.heap.size (.slice a zs.length cap) zs := by
      intro t
      refine ⟨⟨0, t, Blk.new _ _ _, by omega, by omega⟩, HR.out.below ((Below.refl _ _).alloc (Nat.le_refl _) _), ?_, hok, hlen⟩
      rcases h3 with h3 | ⟨b, off, rfl, h4⟩
      · exact .inl h3
      · by_cases h0 : zs = []
        · exact .inl h0
        · have hp : 0 < zs.length := by cases zs with | nil => exact absurd rfl h0 | cons _ _ => simp
          have hb : b < w.heap.size := block_lt_of_cell (h4 0 hp)
          right; right; simp [Value.ownBlock]; omega
    have FIN : Hid _ := fin
    clear fin
    by_cases hlt : j < zs.length
    · by_cases h4k : j < 4000
      · rcases h3 with h3 | ⟨b, off, rfl, h4⟩
        · subst h3; simp at hlt
        have hc := h4 j hlt
        have hi : (0 : Int) ≤ (j : Int) := by omega
        have hi2 : (j : Int) < (zs.length : Int) := by omega
        have d1 : decide ((j : Int) < (zs.length : Int)) = true := by simp; omega
        have d2 : decide ((j : Int) < 4000) = true := by simp; omega
        clear h4 hok
        go_wp2
        go_round
        case rel => exact ⟨j + 1, _, by omega, by go_num, rfl⟩
        case measure => simp [intOf]; omega
      · have d1 : decide ((j : Int) < (zs.length : Int)) = true := by simp; omega
        have d2 : decide ((j : Int) < 4000) = false := by simp; omega
        clear h3 hok
        go_wp2
        go_ret
        exact ⟨_, rfl, FIN.out t, Nat.le_refl _, (Below.refl _ _).alloc (Nat.le_refl _) _⟩
    · have d1 : decide ((j : Int) < (zs.length : Int)) = false := by simp; omega
      clear h3 hok
      go_wp2
      go_ret
      exact ⟨_, rfl, FIN.out t, Nat.le_refl _, (Below.refl _ _).alloc (Nat.le_refl _) _⟩

end Go.Proofs.Ytikgempdohpdjaa
