/- Draws; no condition. -/
import Derived.Test.YtkjfcebdjnclaaaDoorSl
namespace Go.Proofs.YtkjfcebdjnclaaaDoor
open Go.RowKit Go.ChangeShapes Go.WideShapes Go.ChangeAt
set_option linter.unusedVariables false
set_option linter.unusedSimpArgs false
set_option maxRecDepth 8000
set_option linter.unusedVariables false
set_option linter.unusedSimpArgs false
/-- block g holds a cursor over the bytes zs, which the slice cv reads as -/
structure Dr (w : World) (g : Nat) (cv : Value) (zs : List Int) : Prop where
  cur : ∃ i h : Int, Blk w g #[cv, .int .i64 i, .int .i64 h] 108 ∧ 0 ≤ i ∧ i ≤ zs.length
  rd : Rd .u8 w cv zs
  ap : zs = [] ∨ cv.ownBlock = none ∨ cv.ownBlock ≠ some g
  ok : ∀ z ∈ zs, 0 ≤ z ∧ z ≤ 255
  len : zs.length ≤ 2097152
theorem i64_and255 (n : Int) : bits .and .i64 n 255 = n % 256 := by
  have h255 : (BitVec.ofInt 64 255).toNat = 2 ^ 8 - 1 := by decide
  have key : (BitVec.ofInt 64 n &&& BitVec.ofInt 64 255).toNat = (n % ((2 ^ 64 : Nat) : Int)).toNat % 2 ^ 8 := by
    rw [BitVec.toNat_and, BitVec.toNat_ofInt, h255, Nat.and_two_pow_sub_one_eq_mod]
  show IntKind.i64.wrap ((BitVec.ofInt 64 n &&& BitVec.ofInt 64 255).toNat : Nat) = n % 256
  rw [key, IntKind.wrap_i64]
  omega
theorem and255 (x : Int) : 0 ≤ bits .and .i64 x 255 ∧ bits .and .i64 x 255 ≤ 255 := by rw [i64_and255]; omega
theorem dgrown_set (w : World) (g k : Nat) (x : Value) : w.grownBy (w.setCell ⟨g, k, none⟩ x) (some g) :=
  ⟨rfl, rfl, rfl, by simp, fun i _ hi => heap_setCell_other w ⟨g, k, none⟩ i x (fun e => hi (by simp [e]))⟩
theorem grown_drewN {w w' : World} {row : Option Nat} (h : w.grownBy w' row) (n : Nat) : w.grownBy (w'.drewN n) row := ⟨h.os, h.tape, h.output, h.size, h.block⟩
theorem grown_alloc {w w' : World} {row : Option Nat} (h : w.grownBy w' row) (o : Obj) : w.grownBy (w'.alloc o) row := grown_trans h (World.grownBy_alloc w' o row)
theorem Rd.grownE {k : IntKind} {w w' : World} {v : Value} {zs : List Int} {row : Option Nat} (h : Rd k w v zs) (hg : w.grownBy w' row) (hne : zs = [] ∨ v.ownBlock = none ∨ v.ownBlock ≠ row) : Rd k w' v zs := by
  rcases hne with h0 | hne
  · obtain ⟨a, cap, h1, h2, h3, _⟩ := h
    exact ⟨a, cap, h1, h2, h3, .inl h0⟩
  · exact h.grown hg hne
/-- a cursor, behind what turned nothing but it -/
theorem Dr.of {w w' : World} {g : Nat} {cv : Value} {zs : List Int} (h : Dr w g cv zs) (hg : w.grownBy w' (some g)) (hc : ∃ i h : Int, Blk w' g #[cv, .int .i64 i, .int .i64 h] 108 ∧ 0 ≤ i ∧ i ≤ zs.length) : Dr w' g cv zs :=
  ⟨hc, h.rd.grownE hg h.ap, h.ap, h.ok, h.len⟩
theorem Dr.lt {w : World} {g : Nat} {cv : Value} {zs : List Int} (h : Dr w g cv zs) : g < w.heap.size := by obtain ⟨i, hh, k, _⟩ := h.cur; exact k.lt
/-- a cursor, behind what turned nothing old -/
theorem Dr.below {w w' : World} {g : Nat} {cv : Value} {zs : List Int} (h : Dr w g cv zs) (hb : Below w.heap.size w w') : Dr w' g cv zs := by
  obtain ⟨i, hh, k, h1, h2⟩ := h.cur
  exact ⟨⟨i, hh, k.below hb k.lt, h1, h2⟩, h.rd.below hb, h.ap, h.ok, h.len⟩
set_option maxHeartbeats 1600000 in
theorem byte_c (g : Nat) (cv : Value) (zs : List Int) (w : World) (h : Dr w g cv zs) :
   Calls Tryd.prog 102 #[.pointer (some ⟨g, 0, none⟩)] w fun e w' => ∃ x : Int, e = .returned (.int .i64 x) ∧ 0 ≤ x ∧ x ≤ 255 ∧ Dr w' g cv zs ∧ w.grownBy w' (some g) := by
  have hD := h
  obtain ⟨⟨i, hh, k0, hi0, hi1⟩, hrd, hap, hok, hlen⟩ := h
  obtain ⟨a, cap, rfl, h1, h2, h3⟩ := hrd
  unfold maxLen at h2
  obtain ⟨ii, rfl⟩ := Int.eq_ofNat_of_zero_le hi0
  have c0 := k0.cell 0
  have c1 := k0.cell 1
  have c2 := k0.cell 2
  simp at c0 c1 c2
  have f1 := k0.frozen 1
  have f2 := k0.frozen 2
  have HD : Hid (Dr w g (.slice a zs.length cap) zs) := hD
  clear hD hok
  by_cases hlt : ii < zs.length
  · rcases h3 with h3 | ⟨b, off, rfl, h4⟩
    · subst h3; simp at hlt
    have hc := h4 ii hlt
    have hne : b ≠ g := by
      rcases hap with hap | hap
      · subst hap; simp at hlt
      · simpa [Value.ownBlock] using hap
    have hc' : ∀ x, (w.setCell ⟨g, 2, none⟩ x).cell? ⟨b, off + ii, none⟩ = some (.int .u8 (zs.getD ii 0)) := by
      intro x; rw [World.cell?_setCell_other _ _ _ _ (by intro e; injection e with e1; exact hne e1.symm)]; exact hc
    have hltI : (ii : Int) < (zs.length : Int) := by omega
    clear h4 hc
    go_enter Tryd.func102, Tryd.ntmps102
    go_wp2
    go_quiet (fail)
    go_wp2
    go_quiet (fail)
    go_wp2
    go_quiet (fail)
    go_wp2
    go_ret
    refine ⟨_, rfl, (and255 _).1, (and255 _).2, ?_⟩
    have hg : ∀ n, w.grownBy (((w.setCell ⟨g, 2, none⟩ (Value.int IntKind.i64 (wrap64 (wrap64 (hh * 6364136223846793005) + 1442695040888963407)))).drewN n).setCell ⟨g, 1, none⟩ (.int .i64 ((ii : Int) + 1))) (some g) := fun n => grown_trans (grown_drewN (dgrown_set _ _ _ _) n) (dgrown_set _ _ _ _)
    exact ⟨HD.out.of (hg _) ⟨(ii : Int) + 1, _, by simpa using (((k0.set 2 _).drewN _).set 1 (.int .i64 ((ii : Int) + 1))), by omega, by omega⟩, hg _⟩
  · have hltI : ¬ (ii : Int) < (zs.length : Int) := by omega
    have hd : decide ((ii : Int) < (zs.length : Int)) = false := by simp; omega
    clear h3
    go_enter Tryd.func102, Tryd.ntmps102
    go_wp2
    go_quiet (fail)
    go_wp2
    go_quiet (fail)
    go_wp2
    go_ret
    refine ⟨_, rfl, (and255 _).1, (and255 _).2, ?_⟩
    have hg : ∀ n n', w.grownBy (((w.setCell ⟨g, 2, none⟩ (Value.int IntKind.i64 (wrap64 (wrap64 (hh * 6364136223846793005) + 1442695040888963407)))).drewN n).drewN n') (some g) := fun n n' => grown_drewN (grown_drewN (dgrown_set _ _ _ _) n) n'
    exact ⟨HD.out.of (hg _ _) ⟨(ii : Int), _, by simpa using (((k0.set 2 _).drewN _).drewN _), by omega, by omega⟩, hg _ _⟩
set_option maxHeartbeats 1600000 in
theorem below_c (g : Nat) (cv : Value) (zs : List Int) (n : Int) (w : World) (h : Dr w g cv zs) (hn : n ≤ 1099511627776) :
   Calls Tryd.prog 68 #[.pointer (some ⟨g, 0, none⟩), .int .i64 n] w fun e w' => ∃ x : Int, e = .returned (.int .i64 x) ∧ 0 ≤ x ∧ (0 < n → x < n) ∧ (n ≤ 0 → x = 0) ∧ Dr w' g cv zs ∧ w.grownBy w' (some g) := by
  by_cases h0 : n ≤ 0
  · go_enter Tryd.func68, Tryd.ntmps68
    go_wp2
    go_ret
    exact ⟨_, rfl, by omega, by omega, fun _ => rfl, h, grown_refl _ _⟩
  · have h0' : ¬ n ≤ 0 := h0
    by_cases h256 : n ≤ 256
    · go_enter Tryd.func68, Tryd.ntmps68
      go_wp2_with fail
      refine (byte_c g cv zs _ h).mono ?_
      rintro e w1 ⟨x, rfl, x0, x1, d1, g1⟩
      go_wp2
      go_ret
      exact ⟨_, rfl, Int.emod_nonneg _ (by omega), fun _ => Int.emod_lt_of_pos _ (by omega), fun h => by omega, d1, g1⟩
    · go_enter Tryd.func68, Tryd.ntmps68
      go_wp2_with fail
      refine (byte_c g cv zs _ h).mono ?_
      rintro e w1 ⟨x, rfl, x0, x1, d1, g1⟩
      go_wp2_with fail
      refine (byte_c g cv zs _ d1).mono ?_
      rintro e w2 ⟨y, rfl, y0, y1, d2, g2⟩
      go_wp2_with fail
      refine (byte_c g cv zs _ d2).mono ?_
      rintro e w3 ⟨z, rfl, z0, z1, d3, g3⟩
      go_wp2_with fail
      refine (byte_c g cv zs _ d3).mono ?_
      rintro e w4 ⟨u, rfl, u0, u1, d4, g4⟩
      go_wp2
      go_ret
      exact ⟨_, rfl, Int.emod_nonneg _ (by omega), fun _ => Int.emod_lt_of_pos _ (by omega), fun h => by omega, d4, grown_trans (grown_trans (grown_trans g1 g2) g3) g4⟩
set_option maxHeartbeats 1600000 in
set_option maxHeartbeats 1600000 in
theorem new_c (v : Value) (zs : List Int) (w : World) (h : Rd .u8 w v zs) (hok : ∀ z ∈ zs, 0 ≤ z ∧ z ≤ 255) (hlen : zs.length ≤ 2097152) :
   Calls Tryd.prog 53 #[v] w fun e w' => ∃ g, e = .returned (.pointer (some ⟨g, 0, none⟩)) ∧ Dr w' g v zs ∧ w.heap.size ≤ g ∧ Below w.heap.size w w' := by
  have hR := h
  obtain ⟨a, cap, rfl, h1, h2, h3⟩ := h
  unfold maxLen at h2
  have HR : Hid (Rd .u8 w (.slice a zs.length cap) zs) := hR
  clear hR
  go_enter Tryd.func53, Tryd.ntmps53
  go_wp2
  go_loop [3, 4] (fun s i => ∃ (j : Nat) (t : Int), j ≤ zs.length ∧ i = .int .i64 j ∧ s = .int .i64 t) (fun _ i => zs.length - (intOf i).toNat)
  case atStart => exact ⟨0, _, Nat.zero_le _, rfl, rfl⟩
  case round =>
    obtain ⟨j, t, hj, rfl, rfl⟩ := hrel
    have fin : ∀ (t : Int), Dr (w.alloc (.cells #[.slice a zs.length cap, .int .i64 0, .int .i64 t] 108)) w.heap.size (.slice a zs.length cap) zs := by
      intro t
      refine ⟨⟨0, t, Blk.new _ _ _, by omega, by omega⟩, HR.out.below ((Below.refl _ _).alloc (Nat.le_refl _) _), ?_, hok, hlen⟩
      rcases h3 with h3 | ⟨b, off, rfl, h4⟩
      · exact .inl h3
      · by_cases h0 : zs = []
        · exact .inl h0
        · have hp : 0 < zs.length := by cases zs with | nil => exact absurd rfl h0 | cons _ _ => simp
          have hb : b < w.heap.size := block_lt_of_cell (h4 0 hp)
          right; right; simp [Value.ownBlock]; omega
    have FIN : Hid _ := fin
    clear fin
    by_cases hlt : j < zs.length
    · by_cases h4k : j < 4000
      · rcases h3 with h3 | ⟨b, off, rfl, h4⟩
        · subst h3; simp at hlt
        have hc := h4 j hlt
        have hi : (0 : Int) ≤ (j : Int) := by omega
        have hi2 : (j : Int) < (zs.length : Int) := by omega
        have d1 : decide ((j : Int) < (zs.length : Int)) = true := by simp; omega
        have d2 : decide ((j : Int) < 4000) = true := by simp; omega
        clear h4 hok
        go_wp2
        go_round
        case rel => exact ⟨j + 1, _, by omega, by go_num, rfl⟩
        case measure => simp [intOf]; omega
      · have d1 : decide ((j : Int) < (zs.length : Int)) = true := by simp; omega
        have d2 : decide ((j : Int) < 4000) = false := by simp; omega
        clear h3 hok
        go_wp2
        go_ret
        exact ⟨_, rfl, FIN.out t, Nat.le_refl _, (Below.refl _ _).alloc (Nat.le_refl _) _⟩
    · have d1 : decide ((j : Int) < (zs.length : Int)) = false := by simp; omega
      clear h3 hok
      go_wp2
      go_ret
      exact ⟨_, rfl, FIN.out t, Nat.le_refl _, (Below.refl _ _).alloc (Nat.le_refl _) _⟩

end Go.Proofs.YtkjfcebdjnclaaaDoor
namespace Go.Proofs.YtkjfcebdjnclaaaDoor
open Go.RowKit Go.ChangeShapes Go.WideShapes Go.ChangeAt
set_option linter.unusedVariables false
set_option linter.unusedSimpArgs false
set_option maxRecDepth 8000
set_option linter.unusedVariables false
set_option linter.unusedSimpArgs false
theorem Ow.low {k : IntKind} {e : TypeId} {base : Nat} {w : World} {v : Value} {zs : List Int} (h : Ow k e base w v zs) (g : Nat) (hg : g < base) : v.ownBlock = none ∨ v.ownBlock ≠ some g := by
  cases hv : v.ownBlock with
  | none => exact .inl rfl
  | some j => refine .inr fun e => ?_; have := (World.ownsRow.lt h j hv).1; simp at e; omega
theorem grown_then_below {w w1 w2 : World} {row : Option Nat} (h : w.grownBy w1 row) (hb : Below w.heap.size w1 w2) : w.grownBy w2 row :=
  ⟨hb.os.trans h.os, hb.tape.trans h.tape, hb.output.trans h.output, Nat.le_trans h.size hb.size, fun k hk hne => (hb.block k hk).trans (h.block k hk hne)⟩
/-- a cursor, behind something that turned nothing below B -/
theorem Dr.onto {w w1 w2 : World} {g : Nat} {cv : Value} {zs : List Int} (h : Dr w g cv zs) (h1 : Dr w1 g cv zs) (hg : w.grownBy w1 (some g)) (hb : Below w.heap.size w1 w2) : Dr w2 g cv zs ∧ w.grownBy w2 (some g) := by
  have hg2 := grown_then_below hg hb
  obtain ⟨i, hh, k, e1, e2⟩ := h1.cur
  exact ⟨h.of hg2 ⟨i, hh, k.below hb h.lt, e1, e2⟩, hg2⟩
set_option maxHeartbeats 1600000 in
theorem pickInt_c (g : Nat) (cv : Value) (zs : List Int) (v : Value) (ys : List Int) (w : World) (h : Dr w g cv zs) (hv : Rd .i64 w v ys) (hap : v.ownBlock = none ∨ v.ownBlock ≠ some g) (hl : 0 < ys.length) (hl2 : ys.length ≤ 2097152) :
   Calls Tryd.prog 97 #[.pointer (some ⟨g, 0, none⟩), v] w fun e w' => ∃ x : Int, e = .returned (.int .i64 x) ∧ (∃ k, k < ys.length ∧ x = ys.getD k 0) ∧ Dr w' g cv zs ∧ w.grownBy w' (some g) := by
  have hv' := hv
  obtain ⟨a, cap, rfl, h1, h2, h3⟩ := hv
  unfold maxLen at h2
  go_enter Tryd.func97, Tryd.ntmps97
  go_wp2_with fail
  refine (below_c g cv zs _ _ h (by omega)).mono ?_
  rintro e w1 ⟨x, rfl, x0, x1, x2, d1, g1⟩
  have x1' := x1 (by omega)
  obtain ⟨xn, rfl⟩ := Int.eq_ofNat_of_zero_le x0
  obtain ⟨a', cap', he, _, _, h3'⟩ := hv'.grown g1 hap
  simp only [Value.slice.injEq] at he
  obtain ⟨rfl, _, rfl⟩ := he
  rcases h3' with h3' | ⟨b, off, rfl, h4⟩
  · subst h3'; simp at hl
  have hc := h4 xn (by omega)
  clear h3 h4 x1 x2 hv'
  go_wp2
  go_ret
  exact ⟨_, rfl, ⟨xn, by omega, rfl⟩, d1, g1⟩

end Go.Proofs.YtkjfcebdjnclaaaDoor
namespace Go.Proofs.YtkjfcebdjnclaaaDoor
open Go.RowKit Go.ChangeShapes Go.WideShapes Go.ChangeAt
set_option linter.unusedVariables false
set_option linter.unusedSimpArgs false
set_option maxRecDepth 8000
set_option maxHeartbeats 1600000
theorem big_c (v : Value) (zs : List Int) (w : World) (h : Rd .u8 w v zs) : Calls Tryd.prog 14 #[v] w fun e w' => e = .returned (.bool (decide ((1048576 : Int) < (zs.length : Int)))) ∧ w' = w := by
  obtain ⟨a, cap, rfl, -, h2, -⟩ := h
  unfold maxLen at h2
  go_enter Tryd.func14, Tryd.ntmps14
  go_wp2
  go_ret
  exact ⟨rfl, rfl⟩
set_option maxHeartbeats 1600000 in
theorem at_c (v : Value) (zs : List Int) (i : Int) (w : World) (h : Rd .u8 w v zs) (hok : ∀ z ∈ zs, 0 ≤ z ∧ z ≤ 255) (hi0 : 0 ≤ i) (hi : i ≤ 100000) (hlen : zs.length ≤ 1048576) :
   Calls Tryd.prog 25 #[v, .int .i64 i] w fun e w' => ∃ x : Int, e = .returned (.int .i64 x) ∧ 0 ≤ x ∧ x ≤ 255 ∧ w' = w := by
  obtain ⟨a, cap, rfl, h1, h2, h3⟩ := h
  unfold maxLen at h2
  obtain ⟨k, rfl⟩ := Int.eq_ofNat_of_zero_le hi0
  by_cases hlt : k < zs.length
  · rcases h3 with h3 | ⟨b, off, rfl, h4⟩
    · subst h3; simp at hlt
    have hc := h4 k hlt
    have hb := hok _ (List.getElem_mem hlt)
    have hltI : (k : Int) < (zs.length : Int) := by omega
    clear h4 hok
    go_enter Tryd.func25, Tryd.ntmps25
    go_wp2
    go_ret
    exact ⟨_, rfl, hb.1, hb.2, rfl⟩
  · clear h3 hok
    go_enter Tryd.func25, Tryd.ntmps25
    go_wp2
    go_ret
    exact ⟨_, rfl, by omega, by omega, rfl⟩
theorem Blk.grown {w w' : World} {g : Nat} {cs : Array Value} {t : TypeId} {row : Option Nat} (h : Blk w g cs t) (hg : w.grownBy w' row) (hne : some g ≠ row) : Blk w' g cs t := by
  rw [Blk, hg.block g h.lt hne]; exact h
/-- from w on nothing old was turned but the cursor g -/
structure Dc (w W : World) (g : Nat) (cv : Value) (zs : List Int) : Prop where
  dr : Dr W g cv zs
  gr : w.grownBy W (some g)
  lt : g < w.heap.size
  cl : zs = [] ∨ ∀ k, cv.ownBlock = some k → k < w.heap.size
theorem Dc.start {w : World} {g : Nat} {cv : Value} {zs : List Int} (h : Dr w g cv zs) : Dc w w g cv zs := by
  refine ⟨h, grown_refl _ _, h.lt, ?_⟩
  obtain ⟨a, cap, rfl, -, -, h3⟩ := h.rd
  rcases h3 with h3 | ⟨b, off, rfl, h4⟩
  · exact .inl h3
  · cases zs with
    | nil => exact .inl rfl
    | cons z r => exact .inr (fun k e => by simp [Value.ownBlock] at e; subst e; exact block_lt_of_cell (h4 0 (by simp)))
theorem Dc.below {w W W' : World} {g : Nat} {cv : Value} {zs : List Int} (h : Dc w W g cv zs) (hb : Below W.heap.size W W') : Dc w W' g cv zs :=
  ⟨h.dr.below hb, ⟨hb.os.trans h.gr.os, hb.tape.trans h.gr.tape, hb.output.trans h.gr.output, Nat.le_trans h.gr.size hb.size, fun j hj hne => (hb.block j (Nat.lt_of_lt_of_le hj h.gr.size)).trans (h.gr.block j hj hne)⟩, h.lt, h.cl⟩
theorem Dc.draw {w W W' : World} {g : Nat} {cv : Value} {zs : List Int} (h : Dc w W g cv zs) (hd : Dr W' g cv zs) (hg : W.grownBy W' (some g)) : Dc w W' g cv zs := ⟨hd, grown_trans h.gr hg, h.lt, h.cl⟩
/-- a row that is new is written -/
theorem Dc.app {w W W' : World} {g : Nat} {cv : Value} {zs : List Int} {row : Option Nat} (h : Dc w W g cv zs) (hr : ∀ k, row = some k → w.heap.size ≤ k) (hg : W.grownBy W' row) : Dc w W' g cv zs := by
  have hd : Dr W' g cv zs := by
    obtain ⟨i, hh, k, h1, h2⟩ := h.dr.cur
    refine ⟨⟨i, hh, k.grown hg (fun e => by have := hr g e.symm; have := h.lt; omega), h1, h2⟩, h.dr.rd.grownE hg ?_, h.dr.ap, h.dr.ok, h.dr.len⟩
    rcases h.cl with h0 | h0
    · exact .inl h0
    · cases hv : cv.ownBlock with
      | none => exact .inr (.inl rfl)
      | some k => exact .inr (.inr (fun e => by have := h0 k hv; have := hr k e.symm; omega))
  exact ⟨hd, ⟨hg.os.trans h.gr.os, hg.tape.trans h.gr.tape, hg.output.trans h.gr.output, Nat.le_trans h.gr.size hg.size, fun j hj hn => (hg.block j (Nat.lt_of_lt_of_le hj h.gr.size) (fun e => by have := hr j e.symm; omega)).trans (h.gr.block j hj hn)⟩, h.lt, h.cl⟩
/-- numbers written out -/
theorem Rd.lit (W : World) (zs : List Int) (h : zs.length ≤ 1000) : Rd .i64 (W.alloc (.cells (zs.map (Value.int .i64)).toArray 3)) (.slice (some ⟨W.heap.size, 0, none⟩) zs.length zs.length) zs := by
  have h1 : Ow .i64 3 W.heap.size (W.alloc (.cells (zs.map (Value.int .i64)).toArray 3)) (.slice (some ⟨W.heap.size, 0, none⟩) zs.length zs.length) zs := by
    have := World.ownsRow_lit (e := 3) (size := 1) (base := W.heap.size) W (zs.map (Value.int .i64)).toArray zs.length (Nat.le_refl _) (by unfold maxLen; omega) (by simp)
    unfold Ow; simpa using this
  exact h1.rd
set_option maxHeartbeats 800000 in
theorem once_c (g : Nat) (cv : Value) (zs : List Int) (n : Int) (w : World) (h : Dr w g cv zs) (hn : n ≤ 1099511627776) :
   Calls Tryd.prog 67 #[.pointer (some ⟨g, 0, none⟩), .int .i64 n] w fun e w' => ∃ r : Bool, e = .returned (.bool r) ∧ Dr w' g cv zs ∧ w.grownBy w' (some g) := by
  go_enter Tryd.func67, Tryd.ntmps67
  go_wp2_with (fail)
  refine (below_c g cv zs n w h hn).mono ?_
  rintro e w1 ⟨x, rfl, x0, x1, x2, d1, g1⟩
  have HF : Hid (Dr w1 g cv zs ∧ w.grownBy w1 (some g)) := ⟨d1, g1⟩
  clear d1 g1 x1 x2
  go_wp2
  go_ret
  exact ⟨_, rfl, HF.out⟩


end Go.Proofs.YtkjfcebdjnclaaaDoor
