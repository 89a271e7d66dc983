/- Contracts of the functions that draw; no condition. -/
import Derived.Test.YtkehcalijamhjaaApp
import Derived.OpenShut
namespace Go.Proofs.Ytkehcalijamhjaa
open Go.RowKit Go.ChangeShapes Go.WideShapes Go.ChangeAt
set_option linter.unusedVariables false
set_option linter.unusedSimpArgs false
set_option maxRecDepth 8000
/-- block g holds a cursor over the bytes zs, which the slice cv reads as -/
structure Dr (w : World) (g : Nat) (cv : Value) (zs : List Int) : Prop where
  cur : ∃ i h : Int, Blk w g #[cv, .int .i64 i, .int .i64 h] 91 ∧ 0 ≤ i ∧ i ≤ zs.length
  rd : Rd .u8 w cv zs
  ap : zs = [] ∨ cv.ownBlock = none ∨ cv.ownBlock ≠ some g
  ok : ∀ z ∈ zs, 0 ≤ z ∧ z ≤ 255
  len : zs.length ≤ 2097152
theorem i64_and255 (n : Int) : bits .and .i64 n 255 = n % 256 := by
  have h255 : (BitVec.ofInt 64 255).toNat = 2 ^ 8 - 1 := by decide
  have key : (BitVec.ofInt 64 n &&& BitVec.ofInt 64 255).toNat = (n % ((2 ^ 64 : Nat) : Int)).toNat % 2 ^ 8 := by
    rw [BitVec.toNat_and, BitVec.toNat_ofInt, h255, Nat.and_two_pow_sub_one_eq_mod]
  show IntKind.i64.wrap ((BitVec.ofInt 64 n &&& BitVec.ofInt 64 255).toNat : Nat) = n % 256
  rw [key, IntKind.wrap_i64]
  omega
theorem and255 (x : Int) : 0 ≤ bits .and .i64 x 255 ∧ bits .and .i64 x 255 ≤ 255 := by rw [i64_and255]; omega
theorem dgrown_set (w : World) (g k : Nat) (x : Value) : w.grownBy (w.setCell ⟨g, k, none⟩ x) (some g) :=
  ⟨rfl, rfl, rfl, by simp, fun i _ hi => heap_setCell_other w ⟨g, k, none⟩ i x (fun e => hi (by simp [e]))⟩
theorem grown_drewN {w w' : World} {row : Option Nat} (h : w.grownBy w' row) (n : Nat) : w.grownBy (w'.drewN n) row := ⟨h.os, h.tape, h.output, h.size, h.block⟩
theorem grown_alloc {w w' : World} {row : Option Nat} (h : w.grownBy w' row) (o : Obj) : w.grownBy (w'.alloc o) row := grown_trans h (World.grownBy_alloc w' o row)
theorem Rd.grownE {k : IntKind} {w w' : World} {v : Value} {zs : List Int} {row : Option Nat} (h : Rd k w v zs) (hg : w.grownBy w' row) (hne : zs = [] ∨ v.ownBlock = none ∨ v.ownBlock ≠ row) : Rd k w' v zs := by
  rcases hne with h0 | hne
  · obtain ⟨a, cap, h1, h2, h3, _⟩ := h
    exact ⟨a, cap, h1, h2, h3, .inl h0⟩
  · exact h.grown hg hne
/-- a cursor, behind what turned nothing but it -/
theorem Dr.of {w w' : World} {g : Nat} {cv : Value} {zs : List Int} (h : Dr w g cv zs) (hg : w.grownBy w' (some g)) (hc : ∃ i h : Int, Blk w' g #[cv, .int .i64 i, .int .i64 h] 91 ∧ 0 ≤ i ∧ i ≤ zs.length) : Dr w' g cv zs :=
  ⟨hc, h.rd.grownE hg h.ap, h.ap, h.ok, h.len⟩
theorem Dr.lt {w : World} {g : Nat} {cv : Value} {zs : List Int} (h : Dr w g cv zs) : g < w.heap.size := by obtain ⟨i, hh, k, _⟩ := h.cur; exact k.lt
/-- a cursor, behind what turned nothing old -/
theorem Dr.below {w w' : World} {g : Nat} {cv : Value} {zs : List Int} (h : Dr w g cv zs) (hb : Below w.heap.size w w') : Dr w' g cv zs := by
  obtain ⟨i, hh, k, h1, h2⟩ := h.cur
  exact ⟨⟨i, hh, k.below hb k.lt, h1, h2⟩, h.rd.below hb, h.ap, h.ok, h.len⟩
set_option maxHeartbeats 1600000 in
theorem byte_c (g : Nat) (cv : Value) (zs : List Int) (w : World) (h : Dr w g cv zs) :
   Calls Try.prog 66 #[.pointer (some ⟨g, 0, none⟩)] w fun e w' => ∃ x : Int, e = .returned (.int .i64 x) ∧ 0 ≤ x ∧ x ≤ 255 ∧ Dr w' g cv zs ∧ w.grownBy w' (some g) := by
  have hD := h
  obtain ⟨⟨i, hh, k0, hi0, hi1⟩, hrd, hap, hok, hlen⟩ := h
  obtain ⟨a, cap, rfl, h1, h2, h3⟩ := hrd
  unfold maxLen at h2
  obtain ⟨ii, rfl⟩ := Int.eq_ofNat_of_zero_le hi0
  have c0 := k0.cell 0
  have c1 := k0.cell 1
  have c2 := k0.cell 2
  simp at c0 c1 c2
  have f1 := k0.frozen 1
  have f2 := k0.frozen 2
  have HD : Hid (Dr w g (.slice a zs.length cap) zs) := hD
  clear hD hok
  by_cases hlt : ii < zs.length
  · rcases h3 with h3 | ⟨b, off, rfl, h4⟩
    · subst h3; simp at hlt
    have hc := h4 ii hlt
    have hne : b ≠ g := by
      rcases hap with hap | hap
      · subst hap; simp at hlt
      · simpa [Value.ownBlock] using hap
    have hc' : ∀ x, (w.setCell ⟨g, 2, none⟩ x).cell? ⟨b, off + ii, none⟩ = some (.int .u8 (zs.getD ii 0)) := by
      intro x; rw [World.cell?_setCell_other _ _ _ _ (by intro e; injection e with e1; exact hne e1.symm)]; exact hc
    have hltI : (ii : Int) < (zs.length : Int) := by omega
    clear h4 hc
    go_enter Try.func66, Try.ntmps66
    go_wp2
    go_quiet (fail)
    go_wp2
    go_quiet (fail)
    go_wp2
    go_quiet (fail)
    go_wp2
    go_ret
    refine ⟨_, rfl, (and255 _).1, (and255 _).2, ?_⟩
    have hg : ∀ n, w.grownBy (((w.setCell ⟨g, 2, none⟩ (Value.int IntKind.i64 (wrap64 (wrap64 (hh * 6364136223846793005) + 1442695040888963407)))).drewN n).setCell ⟨g, 1, none⟩ (.int .i64 ((ii : Int) + 1))) (some g) := fun n => grown_trans (grown_drewN (dgrown_set _ _ _ _) n) (dgrown_set _ _ _ _)
    exact ⟨HD.out.of (hg _) ⟨(ii : Int) + 1, _, by simpa using (((k0.set 2 _).drewN _).set 1 (.int .i64 ((ii : Int) + 1))), by omega, by omega⟩, hg _⟩
  · have hltI : ¬ (ii : Int) < (zs.length : Int) := by omega
    have hd : decide ((ii : Int) < (zs.length : Int)) = false := by simp; omega
    clear h3
    go_enter Try.func66, Try.ntmps66
    go_wp2
    go_quiet (fail)
    go_wp2
    go_quiet (fail)
    go_wp2
    go_ret
    refine ⟨_, rfl, (and255 _).1, (and255 _).2, ?_⟩
    have hg : ∀ n n', w.grownBy (((w.setCell ⟨g, 2, none⟩ (Value.int IntKind.i64 (wrap64 (wrap64 (hh * 6364136223846793005) + 1442695040888963407)))).drewN n).drewN n') (some g) := fun n n' => grown_drewN (grown_drewN (dgrown_set _ _ _ _) n) n'
    exact ⟨HD.out.of (hg _ _) ⟨(ii : Int), _, by simpa using (((k0.set 2 _).drewN _).drewN _), by omega, by omega⟩, hg _ _⟩
set_option maxHeartbeats 1600000 in
theorem below_c (g : Nat) (cv : Value) (zs : List Int) (n : Int) (w : World) (h : Dr w g cv zs) (hn : n ≤ 1099511627776) :
   Calls Try.prog 33 #[.pointer (some ⟨g, 0, none⟩), .int .i64 n] w fun e w' => ∃ x : Int, e = .returned (.int .i64 x) ∧ 0 ≤ x ∧ (0 < n → x < n) ∧ (n ≤ 0 → x = 0) ∧ Dr w' g cv zs ∧ w.grownBy w' (some g) := by
  by_cases h0 : n ≤ 0
  · go_enter Try.func33, Try.ntmps33
    go_wp2
    go_ret
    exact ⟨_, rfl, by omega, by omega, fun _ => rfl, h, grown_refl _ _⟩
  · have h0' : ¬ n ≤ 0 := h0
    by_cases h256 : n ≤ 256
    · go_enter Try.func33, Try.ntmps33
      go_wp2_with fail
      refine (byte_c g cv zs _ h).mono ?_
      rintro e w1 ⟨x, rfl, x0, x1, d1, g1⟩
      go_wp2
      go_ret
      exact ⟨_, rfl, Int.emod_nonneg _ (by omega), fun _ => Int.emod_lt_of_pos _ (by omega), fun h => by omega, d1, g1⟩
    · go_enter Try.func33, Try.ntmps33
      go_wp2_with fail
      refine (byte_c g cv zs _ h).mono ?_
      rintro e w1 ⟨x, rfl, x0, x1, d1, g1⟩
      go_wp2_with fail
      refine (byte_c g cv zs _ d1).mono ?_
      rintro e w2 ⟨y, rfl, y0, y1, d2, g2⟩
      go_wp2_with fail
      refine (byte_c g cv zs _ d2).mono ?_
      rintro e w3 ⟨z, rfl, z0, z1, d3, g3⟩
      go_wp2_with fail
      refine (byte_c g cv zs _ d3).mono ?_
      rintro e w4 ⟨u, rfl, u0, u1, d4, g4⟩
      go_wp2
      go_ret
      exact ⟨_, rfl, Int.emod_nonneg _ (by omega), fun _ => Int.emod_lt_of_pos _ (by omega), fun h => by omega, d4, grown_trans (grown_trans (grown_trans g1 g2) g3) g4⟩
set_option maxHeartbeats 1600000 in
theorem new_c (v : Value) (zs : List Int) (w : World) (h : Rd .u8 w v zs) (hok : ∀ z ∈ zs, 0 ≤ z ∧ z ≤ 255) (hlen : zs.length ≤ 2097152) :
   Calls Try.prog 32 #[v] w fun e w' => ∃ g, e = .returned (.pointer (some ⟨g, 0, none⟩)) ∧ Dr w' g v zs ∧ w.heap.size ≤ g ∧ Below w.heap.size w w' := by
  have hR := h
  obtain ⟨a, cap, rfl, h1, h2, h3⟩ := h
  unfold maxLen at h2
  have HR : Hid (Rd .u8 w (.slice a zs.length cap) zs) := hR
  clear hR
  go_enter Try.func32, Try.ntmps32
  go_wp2
  go_loop [3, 4] (fun s i => ∃ (j : Nat) (t : Int), j ≤ zs.length ∧ i = .int .i64 j ∧ s = .int .i64 t) (fun _ i => zs.length - (intOf i).toNat)
  case atStart => exact ⟨0, _, Nat.zero_le _, rfl, rfl⟩
  case round =>
    obtain ⟨j, t, hj, rfl, rfl⟩ := hrel
    have fin : ∀ (t : Int), Dr (w.alloc (.cells #[.slice a zs.length cap, .int .i64 0, .int .i64 t] 91)) w.heap.size (.slice a zs.length cap) zs := by
      intro t
      refine ⟨⟨0, t, Blk.new _ _ _, by omega, by omega⟩, HR.out.below ((Below.refl _ _).alloc (Nat.le_refl _) _), ?_, hok, hlen⟩
      rcases h3 with h3 | ⟨b, off, rfl, h4⟩
      · exact .inl h3
      · by_cases h0 : zs = []
        · exact .inl h0
        · have hp : 0 < zs.length := by cases zs with | nil => exact absurd rfl h0 | cons _ _ => simp
          have hb : b < w.heap.size := block_lt_of_cell (h4 0 hp)
          right; right; simp [Value.ownBlock]; omega
    have FIN : Hid _ := fin
    clear fin
    by_cases hlt : j < zs.length
    · by_cases h4k : j < 4000
      · rcases h3 with h3 | ⟨b, off, rfl, h4⟩
        · subst h3; simp at hlt
        have hc := h4 j hlt
        have hi : (0 : Int) ≤ (j : Int) := by omega
        have hi2 : (j : Int) < (zs.length : Int) := by omega
        have d1 : decide ((j : Int) < (zs.length : Int)) = true := by simp; omega
        have d2 : decide ((j : Int) < 4000) = true := by simp; omega
        clear h4 hok
        go_wp2
        go_round
        case rel => exact ⟨j + 1, _, by omega, by go_num, rfl⟩
        case measure => simp [intOf]; omega
      · have d1 : decide ((j : Int) < (zs.length : Int)) = true := by simp; omega
        have d2 : decide ((j : Int) < 4000) = false := by simp; omega
        clear h3 hok
        go_wp2
        go_ret
        exact ⟨_, rfl, FIN.out t, Nat.le_refl _, (Below.refl _ _).alloc (Nat.le_refl _) _⟩
    · have d1 : decide ((j : Int) < (zs.length : Int)) = false := by simp; omega
      clear h3 hok
      go_wp2
      go_ret
      exact ⟨_, rfl, FIN.out t, Nat.le_refl _, (Below.refl _ _).alloc (Nat.le_refl _) _⟩
theorem Ow.low {k : IntKind} {e : TypeId} {base : Nat} {w : World} {v : Value} {zs : List Int} (h : Ow k e base w v zs) (g : Nat) (hg : g < base) : v.ownBlock = none ∨ v.ownBlock ≠ some g := by
  cases hv : v.ownBlock with
  | none => exact .inl rfl
  | some j => refine .inr fun e => ?_; have := (World.ownsRow.lt h j hv).1; simp at e; omega
theorem grown_then_below {w w1 w2 : World} {row : Option Nat} (h : w.grownBy w1 row) (hb : Below w.heap.size w1 w2) : w.grownBy w2 row :=
  ⟨hb.os.trans h.os, hb.tape.trans h.tape, hb.output.trans h.output, Nat.le_trans h.size hb.size, fun k hk hne => (hb.block k hk).trans (h.block k hk hne)⟩
/-- a cursor, behind something that turned nothing below B -/
theorem Dr.onto {w w1 w2 : World} {g : Nat} {cv : Value} {zs : List Int} (h : Dr w g cv zs) (h1 : Dr w1 g cv zs) (hg : w.grownBy w1 (some g)) (hb : Below w.heap.size w1 w2) : Dr w2 g cv zs ∧ w.grownBy w2 (some g) := by
  have hg2 := grown_then_below hg hb
  obtain ⟨i, hh, k, e1, e2⟩ := h1.cur
  exact ⟨h.of hg2 ⟨i, hh, k.below hb h.lt, e1, e2⟩, hg2⟩
set_option maxHeartbeats 1600000 in
theorem pickInt_c (g : Nat) (cv : Value) (zs : List Int) (v : Value) (ys : List Int) (w : World) (h : Dr w g cv zs) (hv : Rd .i64 w v ys) (hap : v.ownBlock = none ∨ v.ownBlock ≠ some g) (hl : 0 < ys.length) (hl2 : ys.length ≤ 2097152) :
   Calls Try.prog 35 #[.pointer (some ⟨g, 0, none⟩), v] w fun e w' => ∃ x : Int, e = .returned (.int .i64 x) ∧ (∃ k, k < ys.length ∧ x = ys.getD k 0) ∧ Dr w' g cv zs ∧ w.grownBy w' (some g) := by
  have hv' := hv
  obtain ⟨a, cap, rfl, h1, h2, h3⟩ := hv
  unfold maxLen at h2
  go_enter Try.func35, Try.ntmps35
  go_wp2_with fail
  refine (below_c g cv zs _ _ h (by omega)).mono ?_
  rintro e w1 ⟨x, rfl, x0, x1, x2, d1, g1⟩
  have x1' := x1 (by omega)
  obtain ⟨xn, rfl⟩ := Int.eq_ofNat_of_zero_le x0
  obtain ⟨a', cap', he, _, _, h3'⟩ := hv'.grown g1 hap
  simp only [Value.slice.injEq] at he
  obtain ⟨rfl, _, rfl⟩ := he
  rcases h3' with h3' | ⟨b, off, rfl, h4⟩
  · subst h3'; simp at hl
  have hc := h4 xn (by omega)
  clear h3 h4 x1 x2 hv'
  go_wp2
  go_ret
  exact ⟨_, rfl, ⟨xn, by omega, rfl⟩, d1, g1⟩
theorem Blk.grownD {w w' : World} {g : Nat} {cs : Array Value} {t : TypeId} {row : Option Nat} (h : Blk w g cs t) (hg : w.grownBy w' row) (hne : some g ≠ row) : Blk w' g cs t := by
  rw [Blk, hg.block g h.lt hne]; exact h
/-- from w on nothing old was turned but the cursor g -/
structure Dc (w W : World) (g : Nat) (cv : Value) (zs : List Int) : Prop where
  dr : Dr W g cv zs
  gr : w.grownBy W (some g)
  lt : g < w.heap.size
  cl : zs = [] ∨ ∀ k, cv.ownBlock = some k → k < w.heap.size
theorem Dc.start {w : World} {g : Nat} {cv : Value} {zs : List Int} (h : Dr w g cv zs) : Dc w w g cv zs := by
  refine ⟨h, grown_refl _ _, h.lt, ?_⟩
  obtain ⟨a, cap, rfl, -, -, h3⟩ := h.rd
  rcases h3 with h3 | ⟨b, off, rfl, h4⟩
  · exact .inl h3
  · cases zs with
    | nil => exact .inl rfl
    | cons z r => exact .inr (fun k e => by simp [Value.ownBlock] at e; subst e; exact block_lt_of_cell (h4 0 (by simp)))
theorem Dc.below {w W W' : World} {g : Nat} {cv : Value} {zs : List Int} (h : Dc w W g cv zs) (hb : Below W.heap.size W W') : Dc w W' g cv zs :=
  ⟨h.dr.below hb, ⟨hb.os.trans h.gr.os, hb.tape.trans h.gr.tape, hb.output.trans h.gr.output, Nat.le_trans h.gr.size hb.size, fun j hj hne => (hb.block j (Nat.lt_of_lt_of_le hj h.gr.size)).trans (h.gr.block j hj hne)⟩, h.lt, h.cl⟩
theorem Dc.draw {w W W' : World} {g : Nat} {cv : Value} {zs : List Int} (h : Dc w W g cv zs) (hd : Dr W' g cv zs) (hg : W.grownBy W' (some g)) : Dc w W' g cv zs := ⟨hd, grown_trans h.gr hg, h.lt, h.cl⟩
/-- a row that is new is written -/
theorem Dc.app {w W W' : World} {g : Nat} {cv : Value} {zs : List Int} {row : Option Nat} (h : Dc w W g cv zs) (hr : ∀ k, row = some k → w.heap.size ≤ k) (hg : W.grownBy W' row) : Dc w W' g cv zs := by
  have hd : Dr W' g cv zs := by
    obtain ⟨i, hh, k, h1, h2⟩ := h.dr.cur
    refine ⟨⟨i, hh, k.grownD hg (fun e => by have := hr g e.symm; have := h.lt; omega), h1, h2⟩, h.dr.rd.grownE hg ?_, h.dr.ap, h.dr.ok, h.dr.len⟩
    rcases h.cl with h0 | h0
    · exact .inl h0
    · cases hv : cv.ownBlock with
      | none => exact .inr (.inl rfl)
      | some k => exact .inr (.inr (fun e => by have := h0 k hv; have := hr k e.symm; omega))
  exact ⟨hd, ⟨hg.os.trans h.gr.os, hg.tape.trans h.gr.tape, hg.output.trans h.gr.output, Nat.le_trans h.gr.size hg.size, fun j hj hn => (hg.block j (Nat.lt_of_lt_of_le hj h.gr.size) (fun e => by have := hr j e.symm; omega)).trans (h.gr.block j hj hn)⟩, h.lt, h.cl⟩
/-- numbers written out -/
theorem Rd.lit (W : World) (zs : List Int) (h : zs.length ≤ 1000) : Rd .i64 (W.alloc (.cells (zs.map (Value.int .i64)).toArray 3)) (.slice (some ⟨W.heap.size, 0, none⟩) zs.length zs.length) zs := by
  have h1 : Ow .i64 3 W.heap.size (W.alloc (.cells (zs.map (Value.int .i64)).toArray 3)) (.slice (some ⟨W.heap.size, 0, none⟩) zs.length zs.length) zs := by
    have := World.ownsRow_lit (e := 3) (size := 1) (base := W.heap.size) W (zs.map (Value.int .i64)).toArray zs.length (Nat.le_refl _) (by unfold maxLen; omega) (by simp)
    unfold Ow; simpa using this
  exact h1.rd
set_option maxHeartbeats 1600000 in
theorem size_c (v : Value) (zs : List Int) (m : Int) (w : World) (h : Rd .u8 w v zs) (h0 : 2 ≤ m) (hm : m ≤ 1099511627776) :
   Calls Try.prog 34 #[v, .int .i64 m] w fun e w' => ∃ x : Int, e = .returned (.int .i64 x) ∧ 2 ≤ x ∧ x ≤ m ∧ w' = w := by
  obtain ⟨a, cap, rfl, h1, h2, h3⟩ := h
  unfold maxLen at h2
  clear h3
  have hq : (0 : Int) ≤ (zs.length : Int) := by omega
  by_cases hc : m < 2 + (zs.length : Int) / 20
  · go_enter Try.func34, Try.ntmps34
    go_wp2
    go_ret
    exact ⟨_, rfl, by omega, by omega, rfl⟩
  · go_enter Try.func34, Try.ntmps34
    go_wp2
    go_ret
    exact ⟨_, rfl, by omega, by omega, rfl⟩
theorem big_c (v : Value) (zs : List Int) (w : World) (h : Rd .u8 w v zs) : Calls Try.prog 11 #[v] w fun e w' => e = .returned (.bool (decide ((1048576 : Int) < (zs.length : Int)))) ∧ w' = w := by
  obtain ⟨a, cap, rfl, -, h2, -⟩ := h
  unfold maxLen at h2
  go_enter Try.func11, Try.ntmps11
  go_wp2
  go_ret
  exact ⟨rfl, rfl⟩
end Go.Proofs.Ytkehcalijamhjaa
namespace Go.Proofs.Ytkehcalijamhjaa
open Go.RowKit Go.ChangeShapes Go.WideShapes Go.ChangeAt
set_option linter.unusedVariables false
set_option linter.unusedSimpArgs false
set_option maxRecDepth 8000

abbrev A3 (x : Int × Int × Int) : Array Value := #[.int .i64 x.1, .int .i64 x.2.1, .int .i64 x.2.2]
abbrev sl3 (g : Nat) : Value := .slice (some ⟨g, 0, none⟩) 3 3
/-- the slice v owns acts, each in a block of its own -/
structure Oa (base : Nat) (w : World) (v : Value) (gs : List Nat) (ac : List (Int × Int × Int)) : Prop where
  len : gs.length = ac.length
  own : w.ownsRow base 27 1 v ac.length (gs.map sl3)
  blk : ∀ i (h : i < gs.length) (h' : i < ac.length), base ≤ gs[i] ∧ Blk w gs[i] (A3 ac[i]) 3
theorem own27_ne {w : World} {base : Nat} {v : Value} {n : Nat} {xs : List Value} {g : Nat} {cs : Array Value} (h : w.ownsRow base 27 1 v n xs) (hb : Blk w g cs 3) : v.ownBlock = none ∨ v.ownBlock ≠ some g := by
  rcases h.2 with ⟨rfl, -⟩ | ⟨k, cap, cur, rfl, -, hk, -⟩
  · exact .inl rfl
  · refine .inr fun e => ?_
    have e' : k = g := by simpa [Value.ownBlock] using e
    subst e'
    rw [Blk] at hb
    rw [hk] at hb
    have := Option.some.inj hb
    injection this with _ h2
    exact absurd h2 (by decide)
theorem Oa.grown {base : Nat} {w w' : World} {v : Value} {gs : List Nat} {ac : List (Int × Int × Int)} {g : Nat} (h : Oa base w v gs ac) (hg : w.grownBy w' (some g)) (hlt : g < base) : Oa base w' v gs ac := by
  refine ⟨h.len, World.ownsRow.kept h.own hg ?_, fun i hi hi' => ⟨(h.blk i hi hi').1, (h.blk i hi hi').2.grownD hg (fun e => by have := (h.blk i hi hi').1; have := Option.some.inj e; omega)⟩⟩
  cases hv : v.ownBlock with
  | none => exact .inl rfl
  | some k => exact .inr (fun e => by have := (World.ownsRow.lt h.own k hv).1; have := Option.some.inj e; omega)
theorem Oa.below {base : Nat} {w w' : World} {v : Value} {gs : List Nat} {ac : List (Int × Int × Int)} (h : Oa base w v gs ac) (hb : Below w.heap.size w w') : Oa base w' v gs ac :=
  ⟨h.len, World.ownsRow.kept (row := none) h.own ⟨hb.os, hb.tape, hb.output, hb.size, fun j hj _ => hb.block j hj⟩ (by cases v.ownBlock <;> simp), fun i hi hi' => ⟨(h.blk i hi hi').1, (h.blk i hi hi').2.below hb (h.blk i hi hi').2.lt⟩⟩
theorem info27 : (Try.prog.info? 27).map (fun i => (i.zero, i.size, i.bytes)) = some (some (.slice none 0 0), 1, 24) := by kernel_rfl
/-- one act more -/
theorem appA {ops : Array Oper} {rest : List Oper} {o : Oper} {a : Act} {w : World} {Q : Exit → Act → World → Prop} (hgd : o.guard = none) (s x : Operand)
    (ho : o.op = .call { callee := .builtin .append, args := #[s, x], argTypes := #[24, 24] }) (base : Nat) (v : Value) (gs : List Nat) (ac : List (Int × Int × Int)) (hs : a.eval s = v) (hown : Oa base w v gs ac)
    (g ib : Nat) (z : Int × Int × Int) (hx : a.eval x = .slice (some ⟨g, 0, none⟩) 1 1) (hc : w.cell? ⟨g, 0, none⟩ = some (sl3 ib)) (hib : base ≤ ib ∧ Blk w ib (A3 z) 3) (hl : ac.length ≤ 1000) (hbase : base ≤ w.heap.size)
    (h : ∀ v' w' gs', Oa base w' v' gs' (ac ++ [z]) → w.grownBy w' v.ownBlock → wpList Try.prog ops Q rest (a.put o.dst v') w') : wpList Try.prog ops Q (o :: rest) a w := by
  obtain ⟨i0, hi, hz0, hz1, hz2⟩ := info_parts info27
  refine wpList_append_own w hgd s x 24 ho base 27 i0 (.slice none 0 0) 1 24 Try.underlying24 hi hz0 hz1 hz2 rfl (by decide) v ac.length (gs.map sl3) hs hown.own ⟨g, 0, none⟩ 1 1 [sl3 ib] hx rfl ?_ ?_ ?_ ?_ hbase ?_
  · intro j u hj
    match j, hj with
    | 0, hj => simp at hj; subst hj; simpa [Addr.add] using hc
  · intro u hu; simp at hu; subst hu; rfl
  · unfold maxLen; omega
  · omega
  · intro v' w' h1 h2 h3
    have hlen : (gs ++ [ib]).length = (ac ++ [z]).length := by simp [hown.len]
    refine h v' w' (gs ++ [ib]) ⟨hlen, by simpa using h1, fun i hi hi' => ?_⟩ h2
    have hk : ∀ k cs, Blk w k cs 3 → Blk w' k cs 3 := fun k cs hb => hb.grownD h2 (fun e => by rcases own27_ne hown.own hb with n | n; rw [n] at e; cases e; exact n e.symm)
    by_cases e : i < gs.length
    · have e' : i < ac.length := by rw [← hown.len]; exact e
      rw [List.getElem_append_left e, List.getElem_append_left e']
      exact ⟨(hown.blk i e e').1, hk _ _ (hown.blk i e e').2⟩
    · have ei : i = gs.length := by rw [hlen] at hi; simp at hi'; have := hown.len; omega
      subst ei
      have e2 : (ac ++ [z])[gs.length]'hi' = z := by rw [List.getElem_append_right (by rw [hown.len]; exact Nat.le_refl _)]; simp [hown.len]
      rw [e2, List.getElem_append_right (Nat.le_refl _)]
      simp only [Nat.sub_self, List.getElem_singleton]
      exact ⟨hib.1, hk _ _ hib.2⟩
/-- an act that may be drawn -/
def ActP (n : Int) (x : Int × Int × Int) : Prop := (x.1 = 0 ∨ x.1 = 1) ∧ (x.2.1 = 0 ∨ x.2.1 = 1 ∨ x.2.1 = 2) ∧ 0 ≤ x.2.2 ∧ x.2.2 < n
/-- acts are drawn -/
def DdR (w : World) (e : Ending) (w' : World) : Prop := ∃ (n : Int) (v : Value) (gs : List Nat) (ac : List (Int × Int × Int)), e = .returned (.tuple #[.int .i64 n, v]) ∧ (1 ≤ n ∧ n ≤ 6) ∧ ac.length ≤ 100 ∧ (∀ x ∈ ac, ActP n x) ∧ Oa w.heap.size w' v gs ac ∧ Below w.heap.size w w'
set_option maxHeartbeats 6400000 in
theorem drawDay_c (v : Value) (zs : List Int) (w : World) (h : Rd .u8 w v zs) (hok : ∀ z ∈ zs, 0 ≤ z ∧ z ≤ 255) (hlen : zs.length ≤ 1048576) : Calls Try.prog 12 #[v] w (DdR w) := by
  have HR : Hid (Rd .u8 w v zs) := h
  have HOK : Hid (∀ z ∈ zs, 0 ≤ z ∧ z ≤ 255) := hok
  obtain ⟨a, cap, rfl, -, -, -⟩ := h
  clear hok
  go_enter Try.func12, Try.ntmps12
  go_wp2_with (fail)
  refine (new_c _ zs _ HR.out HOK.out (by omega)).mono ?_
  rintro e w1 ⟨g, rfl, d1, hg, b1⟩
  have HG : Hid (w.heap.size ≤ g) := hg
  have HB1 : Hid (Below w.heap.size w w1) := b1
  have HD1 : Hid (Dc w1 w1 g (.slice a zs.length cap) zs) := Dc.start d1
  clear d1 hg b1
  go_wp2_with (fail)
  refine (below_c _ _ _ _ _ HD1.out.dr (by omega)).mono ?_
  rintro e w2 ⟨x, rfl, x0, x1, -, d2, g2⟩
  have x1' := x1 (by omega)
  have HD2 : Hid (Dc w1 w2 g (.slice a zs.length cap) zs) := HD1.out.draw d2 g2
  clear d2 g2 HD1 x1
  obtain ⟨n, hn⟩ : ∃ n, 1 + x = n := ⟨_, rfl⟩
  have hn1 : 1 ≤ n ∧ n ≤ 6 := by omega
  obtain ⟨n1, n6⟩ := hn1
  obtain ⟨W3, hW3⟩ : ∃ W, w2.alloc (Obj.cells #[] 27) = W := ⟨_, rfl⟩
  have al : Below w2.heap.size w2 W3 := by rw [← hW3]; exact (Below.refl _ _).alloc (Nat.le_refl _) _
  have HD3 : Hid (Dc w1 W3 g (.slice a zs.length cap) zs) := HD2.out.below al
  have HO3 : Hid (Oa w1.heap.size W3 (.slice (some ⟨w2.heap.size, 0, none⟩) 0 0) [] []) := by
    refine ⟨rfl, ?_, fun i hi => by simp at hi⟩
    rw [← hW3]
    exact World.ownsRow_lit w2 #[] 0 HD2.out.gr.size (by simp) (by simp)
  clear al
  obtain ⟨v3, hv3⟩ : ∃ v, Value.slice (some ⟨w2.heap.size, 0, none⟩) 0 0 = v := ⟨_, rfl⟩
  rw [hv3] at HO3
  have HW3 : Hid (w2.alloc (Obj.cells #[] 27) = W3) := hW3
  have HV3 : Hid (Value.slice (some ⟨w2.heap.size, 0, none⟩) 0 0 = v3) := hv3
  have HN : Hid (1 + x = n) := hn
  clear hW3 hv3 hn
  have HRW : Hid (Rd .u8 W3 (.slice a zs.length cap) zs) := HD3.out.dr.rd
  go_wp2_with (fail)
  rw [HW3.out, HV3.out, HN.out]
  refine (size_c _ zs 20 _ HRW.out (by omega) (by omega)).mono ?_
  rintro e w4 ⟨m, rfl, m0, m1, hw4⟩
  rw [hw4]
  clear hw4 HRW HW3 HV3 HN
  go_wp2_with (fail)
  refine (below_c _ _ _ _ _ HD3.out.dr (by omega)).mono ?_
  rintro e w5 ⟨y, rfl, y0, y1, -, d5, g5⟩
  have y1' := y1 (by omega)
  have HD5 : Hid (Dc w1 w5 g (.slice a zs.length cap) zs) := HD3.out.draw d5 g5
  have HO5 : Hid (Oa w1.heap.size w5 v3 [] []) := HO3.out.grown g5 HD3.out.lt
  clear d5 g5 HD3 HO3 y1 HD2
  obtain ⟨k, rfl⟩ := Int.eq_ofNat_of_zero_le y0
  have hk : k ≤ 80 := by omega
  clear y1'
  go_wp2
  go_loopw [6, 7] (fun av i wr => ∃ (j : Nat) (gs : List Nat) (ac : List (Int × Int × Int)), i = .int .i64 j ∧ Hid (j + ac.length = k) ∧ Hid (∀ x ∈ ac, ActP n x) ∧ Hid (Dc w1 wr g (.slice a zs.length cap) zs) ∧ Hid (Oa w1.heap.size wr av gs ac)) (fun _ i _ => (intOf i).toNat)
  case atStart => exact ⟨k, [], [], rfl, rfl, fun x hx => by simp at hx, HD5.out, HO5.out⟩
  case round =>
    obtain ⟨j, gs, ac, rfl, hj, hP, hD, hO⟩ := hrel
    clear HD5 HO5
    have hjk : j ≤ 80 := by have := hj.out; omega
    cases j with
    | zero =>
      have HFI : Hid (ac.length ≤ 100) := by have := hj.out; show _ ≤ _; omega
      have HBE : Hid (Below w.heap.size w wr) := HB1.out.trans (grown_below hD.out.gr HB1.out.size (fun k e => by have := HG.out; have := Option.some.inj e; omega))
      have HOE : Hid (Oa w.heap.size wr u6 gs ac) := ⟨hO.out.len, ⟨hO.out.own.1, by rcases hO.out.own.2 with q | ⟨b, c, d, e1, e2, e3⟩; exact .inl q; exact .inr ⟨b, c, d, e1, Nat.le_trans HB1.out.size e2, e3⟩⟩, fun i hi hi' => ⟨Nat.le_trans HB1.out.size (hO.out.blk i hi hi').1, (hO.out.blk i hi hi').2⟩⟩
      have e0 : decide ((0 : Int) < ((0 : Nat) : Int)) = false := by decide
      go_wp2
      go_ret2
      exact ⟨n, _, gs, ac, rfl, ⟨n1, n6⟩, HFI.out, hP.out, HOE.out, HBE.out⟩
    | succ j =>
      obtain ⟨J, hJ⟩ : ∃ J : Int, ((j + 1 : Nat) : Int) = J := ⟨_, rfl⟩
      have hJp : 0 < J ∧ J ≤ 80 ∧ J - 1 = (j : Int) := by omega
      obtain ⟨J0, J1, J2⟩ := hJp
      have HJ2 : Hid (J - 1 = (j : Int)) := J2
      have HJ : Hid (((j + 1 : Nat) : Int) = J) := hJ
      rw [hJ]
      clear hJ J2
      go_wp2_with (fail)
      refine (below_c _ _ _ _ _ hD.out.dr (by omega)).mono ?_
      rintro e w6 ⟨a1, rfl, a10, a11, -, d6, g6⟩
      have a11' := a11 (by omega)
      have HD6 : Hid (Dc w1 w6 g (.slice a zs.length cap) zs) := hD.out.draw d6 g6
      have HO6 : Hid (Oa w1.heap.size w6 u6 gs ac) := hO.out.grown g6 hD.out.lt
      clear d6 g6 a11 hO hD
      obtain ⟨W7, hW7⟩ : ∃ W, w6.alloc (Obj.cells #[.int .i64 0, .int .i64 0, .int .i64 1, .int .i64 2, .int .i64 2, .int .i64 2] 3) = W := ⟨_, rfl⟩
      have al : Below w6.heap.size w6 W7 := by rw [← hW7]; exact (Below.refl _ _).alloc (Nat.le_refl _) _
      have HD7 : Hid (Dc w1 W7 g (.slice a zs.length cap) zs) := HD6.out.below al
      have HO7 : Hid (Oa w1.heap.size W7 u6 gs ac) := HO6.out.below al
      have HR7 : Hid (Rd .i64 W7 (.slice (some ⟨w6.heap.size, 0, none⟩) 6 6) [0, 0, 1, 2, 2, 2]) := by
        have := Rd.lit w6 [0, 0, 1, 2, 2, 2] (by simp)
        rw [← hW7]; exact this
      have HAP : Hid ((Value.slice (some ⟨w6.heap.size, 0, none⟩) 6 6).ownBlock = none ∨ (Value.slice (some ⟨w6.heap.size, 0, none⟩) 6 6).ownBlock ≠ some g) := by
        right; have := HD6.out.dr.lt; simp [Value.ownBlock]; omega
      clear al HD6 HO6
      go_wp2_with (fail)
      refine (pickInt_c _ _ _ _ [0, 0, 1, 2, 2, 2] _ HD7.out.dr HR7.out HAP.out (by simp) (by simp)).mono ?_
      rintro e w8 ⟨b1, rfl, ⟨kk, hkk, hb1⟩, d8, g8⟩
      have HKB : Hid (b1 = 0 ∨ b1 = 1 ∨ b1 = 2) := by
        have key : ∀ k, k < 6 → ([0, 0, 1, 2, 2, 2] : List Int).getD k 0 = 0 ∨ ([0, 0, 1, 2, 2, 2] : List Int).getD k 0 = 1 ∨ ([0, 0, 1, 2, 2, 2] : List Int).getD k 0 = 2 := by decide
        rw [hb1]; exact key kk hkk
      have HD8 : Hid (Dc w1 w8 g (.slice a zs.length cap) zs) := HD7.out.draw d8 g8
      have HO8 : Hid (Oa w1.heap.size w8 u6 gs ac) := HO7.out.grown g8 HD7.out.lt
      clear d8 g8 hb1 hkk hW7 HR7 HAP HD7 HO7
      go_wp2_with (fail)
      refine (below_c _ _ _ _ _ HD8.out.dr (by omega)).mono ?_
      rintro e w9 ⟨c1, rfl, c10, c11, -, d9, g9⟩
      have c11' := c11 (by omega)
      have HD9 : Hid (Dc w1 w9 g (.slice a zs.length cap) zs) := HD8.out.draw d9 g9
      have HO9 : Hid (Oa w1.heap.size w9 u6 gs ac) := HO8.out.grown g9 HD8.out.lt
      clear d9 g9 c11 HD8 HO8
      obtain ⟨W11, hW11⟩ : ∃ W, (w9.alloc (Obj.cells (A3 (a1, b1, c1)) 3)).alloc (Obj.cells #[sl3 w9.heap.size] 27) = W := ⟨_, rfl⟩
      have al : Below w9.heap.size w9 W11 := by rw [← hW11]; exact ((Below.refl _ _).alloc (Nat.le_refl _) _).alloc (by simp) _
      have K10' : Hid (Blk W11 w9.heap.size (A3 (a1, b1, c1)) 3) := by rw [← hW11]; exact (Blk.new _ _ _).alloc _
      have K11 : Hid (Blk W11 (w9.heap.size + 1) #[sl3 w9.heap.size] 27) := by rw [← hW11]; exact Blk.newAt _ (w9.heap.size + 1) _ 27 (by simp)
      have HIB : Hid (w1.heap.size ≤ w9.heap.size) := HD9.out.gr.size
      have HD11 : Hid (Dc w1 W11 g (.slice a zs.length cap) zs) := HD9.out.below al
      have HO11 : Hid (Oa w1.heap.size W11 u6 gs ac) := HO9.out.below al
      have HC11 : Hid (W11.cell? ⟨w9.heap.size + 1, 0, none⟩ = some (sl3 w9.heap.size)) := by show _ = _; have := K11.out.cell 0; simpa using this
      have HAL : Hid (ac.length ≤ 1000) := by have := hj.out; show _ ≤ _; omega
      have HWN : Hid ((w9.alloc (Obj.cells (A3 (a1, b1, c1)) 3)).alloc (Obj.cells #[sl3 w9.heap.size] 27) = W11) := hW11
      clear al HD9 HO9 hW11 K11
      go_wp2_with (at_builtin; rw [HWN.out]; refine appA rfl _ _ rfl w1.heap.size _ gs ac rfl HO11.out (w9.heap.size + 1) w9.heap.size (a1, b1, c1) rfl HC11.out ⟨HIB.out, K10'.out⟩ HAL.out HD11.out.gr.size ?_)
      intro v' w12 gs' ho hg
      have HD12 : Hid (Dc w1 w12 g (.slice a zs.length cap) zs) := HD11.out.app (fun k e => (World.ownsRow.lt HO11.out.own k e).1) hg
      have HO12 : Hid (Oa w1.heap.size w12 v' gs' (ac ++ [(a1, b1, c1)])) := ho
      have HPN : Hid (∀ x ∈ ac ++ [(a1, b1, c1)], ActP n x) := by
        intro x hx
        rcases List.mem_append.1 hx with h | h
        · exact hP.out x h
        · rw [List.mem_singleton] at h; subst h
          have := HKB.out
          refine ⟨?_, this, c10, c11'⟩
          show a1 = 0 ∨ a1 = 1
          omega
      have HJN : Hid (j + (ac ++ [(a1, b1, c1)]).length = k) := by have := hj.out; show _ = _; rw [List.length_append]; simp only [List.length_singleton]; omega
      clear ho hg HO11 HD11
      go_wp2
      go_roundw
      case rel => exact ⟨j, gs', ac ++ [(a1, b1, c1)], by rw [HJ2.out], HJN.out, HPN.out, HD12.out, HO12.out⟩
      case measure => simp [intOf]; omega
end Go.Proofs.Ytkehcalijamhjaa
