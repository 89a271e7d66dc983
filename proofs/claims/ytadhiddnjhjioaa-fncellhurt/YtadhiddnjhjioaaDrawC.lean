/- Contracts of the functions that draw cells: two arrays of sixteen bytes; no condition. -/
import Derived.Test.YtadhiddnjhjioaaDrawB
import Derived.Test.YtadhiddnjhjioaaXor
namespace Go.Proofs.Ytadhiddnjhjioaa
open Go.RowKit Go.ChangeShapes Go.WideShapes Go.ChangeAt
set_option linter.unusedVariables false
set_option linter.unusedSimpArgs false
theorem Blk.grown {w w' : World} {b g : Nat} {cs : Array Value} {t : TypeId} (h : Blk w b cs t) (hg : w.grownBy w' (some g)) (hne : b ≠ g) : Blk w' b cs t := by
  rw [Blk, hg.block b h.lt (by simpa using hne)]; exact h
theorem Z_B : B16 (List.replicate 16 0) := ⟨rfl, by intro z hz; simp at hz; omega⟩
theorem A16_put {c : List Int} (hc : B16 c) (k : Nat) (hk : k < 16) (x : Int) (hx : 0 ≤ x ∧ x ≤ 255) : (A16 c).setIfInBounds k (.int .u8 x) = A16 (c.set k x) ∧ B16 (c.set k x) := by
  refine ⟨by apply Array.ext'; simp [A16, List.map_set], by simp [hc.1], fun z hz => ?_⟩
  rcases List.mem_or_eq_of_mem_set hz with h | h
  · exact hc.2 z h
  · rw [h]; exact hx
theorem Blk.has {w : World} {g : Nat} {c : List Int} (h : Blk w g (A16 c) 29) (hc : B16 c) (k : Nat) (hk : k < 16) : ∃ x, w.cell? ⟨g, k, none⟩ = some x := by
  rw [h.cell k, A16_at hc k hk]; exact ⟨_, rfl⟩
set_option maxHeartbeats 1600000 in
theorem drawCell_c (g : Nat) (cv : Value) (zs : List Int) (w : World) (h : Dr w g cv zs) :
   Calls Try.prog 57 #[.pointer (some ⟨g, 0, none⟩)] w fun e w' => ∃ c, e = .returned (.agg (A16 c)) ∧ B16 c ∧ Dr w' g cv zs ∧ w.grownBy w' (some g) := by
  have hD := h
  have hglt := h.lt
  have k0 : Blk (((w.alloc (.cells (A16 (List.replicate 16 0)) 29)).alloc (.cells (A16 (List.replicate 16 0)) 29)).setRow (w.heap.size + 1) (A16 (List.replicate 16 0))) w.heap.size (A16 (List.replicate 16 0)) 29 := ((Blk.newAt _ _ _ _ rfl).alloc _).rowOther _ _ (by omega)
  have k1 : Blk (((w.alloc (.cells (A16 (List.replicate 16 0)) 29)).alloc (.cells (A16 (List.replicate 16 0)) 29)).setRow (w.heap.size + 1) (A16 (List.replicate 16 0))) (w.heap.size + 1) (A16 (List.replicate 16 0)) 29 := (Blk.newAt _ _ _ _ (by simp)).row _
  have hb0 : Below w.heap.size w (((w.alloc (.cells (A16 (List.replicate 16 0)) 29)).alloc (.cells (A16 (List.replicate 16 0)) 29)).setRow (w.heap.size + 1) (A16 (List.replicate 16 0))) := belowRow (((Below.refl _ _).alloc (Nat.le_refl _) _).alloc (by simp) _) _ (by omega) _
  obtain ⟨d0, g0⟩ := h.onto h (grown_refl w (some g)) hb0
  clear hb0
  go_enter Try.func57, Try.ntmps57
  go_wp2_with (refine st29 rfl (.tmp 3) (.tmp 6) rfl (w.heap.size + 1) rfl (List.replicate 16 0) Z_B rfl 29 (A16 (List.replicate 16 0)) (Blk.newAt _ _ _ _ (by simp)) (A16_size Z_B) ?_)
  refine (below_c g cv zs 15 _ d0 (by omega)).mono ?_
  rintro e w1 ⟨n, rfl, n0, n1, n2, d1, g1⟩
  have n1' := n1 (by omega)
  clear n1 n2
  obtain ⟨n, rfl⟩ := Int.eq_ofNat_of_zero_le n0
  have q0 := k0.grown g1 (by omega)
  have q1 := k1.grown g1 (by omega)
  have g01 := grown_trans g0 g1
  clear k0 k1 g0 g1 d0
  go_wp2
  go_loopw [5] (fun i wr => ∃ (j : Nat) (c : List Int), 1 ≤ j ∧ j ≤ n + 2 ∧ i = .int .i64 j ∧ B16 c ∧ Blk wr w.heap.size (A16 (List.replicate 16 0)) 29 ∧ Blk wr (w.heap.size + 1) (A16 c) 29 ∧ Dr wr g cv zs ∧ w.grownBy wr (some g)) (fun i _ => n + 2 - (intOf i).toNat)
  case atStart => exact ⟨1, _, by omega, by omega, rfl, Z_B, q0, q1, d1, g01⟩
  case round =>
    clear q0 q1 d1 g01
    obtain ⟨j, c, hj1, hj, rfl, hc, q0, q1, d1, g01⟩ := hrel
    by_cases hlt : j ≤ n + 1
    · have t0 : (j : Int) ≤ 1 + (n : Int) := by omega
      go_wp2_with fail
      refine (byte_c g cv zs _ d1).mono ?_
      rintro e w2 ⟨x, rfl, x0, x1, d2, g2⟩
      have p0 := q0.grown g2 (by omega)
      have p1 := q1.grown g2 (by omega)
      have g02 := grown_trans g01 g2
      clear q0 q1 d1 g01 g2
      obtain ⟨y, hd1⟩ := p1.has hc j (by omega)
      have hf := p1.frozen j
      obtain ⟨hset, hB⟩ := A16_put hc j (by omega) x ⟨x0, x1⟩
      have hs := p1.set j (.int .u8 x)
      rw [hset] at hs
      have hs0 := g02.size
      have d3 := hD.onto d2 g02 ((Below.refl w.heap.size w2).setCell (p := ⟨w.heap.size + 1, j, none⟩) (by dsimp only; omega) (.int .u8 x))
      have HS := hs
      have hi : (0 : Int) ≤ (j : Int) := by omega
      have hi2 : (j : Int) < 16 := by omega
      clear hset
      go_wp2
      go_roundw
      case rel => exact ⟨j + 1, c.set j x, by omega, by omega, by go_num, hB, p0.other _ _ (by dsimp only; omega), HS, d3.1, d3.2⟩
      case measure => simp [intOf]; omega
    · have t0 : ¬ (j : Int) ≤ 1 + (n : Int) := by omega
      go_wp2_with fail
      refine (below_c g cv zs 16 _ d1 (by omega)).mono ?_
      rintro e w2 ⟨y, rfl, y0, y1, y2, d2, g2⟩
      have y1' := y1 (by omega)
      clear y1 y2
      have p0 := q0.grown g2 (by omega)
      have p1 := q1.grown g2 (by omega)
      have g02 := grown_trans g01 g2
      clear q0 q1 d1 g01 g2
      obtain ⟨yy, hd1⟩ := p1.has hc 0 (by omega)
      have hf := p1.frozen 0
      obtain ⟨hset, hB⟩ := A16_put hc 0 (by omega) (1 + (n : Int) + 16 * y) ⟨by omega, by omega⟩
      have hs := p1.set 0 (.int .u8 (1 + (n : Int) + 16 * y))
      rw [hset] at hs
      have p0' : Blk (w2.setCell ⟨w.heap.size + 1, 0, none⟩ (.int .u8 (1 + (n : Int) + 16 * y))) w.heap.size (A16 (List.replicate 16 0)) 29 := p0.other _ _ (by dsimp only; omega)
      have hs16 := A16_size hB
      have b3 : Below w.heap.size w2 ((w2.setCell ⟨w.heap.size + 1, 0, none⟩ (.int .u8 (1 + (n : Int) + 16 * y))).setRow w.heap.size (A16 (c.set 0 (1 + (n : Int) + 16 * y)))) := belowRow ((Below.refl w.heap.size w2).setCell (p := ⟨w.heap.size + 1, 0, none⟩) (by dsimp only; omega) _) _ (Nat.le_refl _) _
      have d3 := hD.onto d2 g02 b3
      clear hset
      go_wp2_with (first | refine ld29 rfl (.tmp 3) rfl (w.heap.size + 1) rfl 29 _ (0, 0) hs hs16 ?_ | refine st29 rfl (.tmp 2) (.tmp 27) rfl w.heap.size rfl _ hB rfl 29 _ p0' (A16_size Z_B) ?_)
      exact bodyPost_ret (v := .agg (A16 (c.set 0 (1 + (n : Int) + 16 * y)))) (results_cell_row rfl _ _ _ 29 _ (0, 0) _ rfl (p0'.row _) Try.underlying29 rfl (by rw [hs16]; exact size29)) rfl ⟨_, rfl, hB, d3.1, d3.2⟩
set_option maxHeartbeats 1600000 in
theorem at_c (v : Value) (zs : List Int) (i : Nat) (w : World) (h : Rd .u8 w v zs) (hok : ∀ z ∈ zs, 0 ≤ z ∧ z ≤ 255) (hi : i ≤ 100000) (hlen : zs.length ≤ 1048576) :
   Calls Try.prog 21 #[v, .int .i64 i] w fun e w' => ∃ x : Int, e = .returned (.int .i64 x) ∧ 0 ≤ x ∧ x ≤ 255 ∧ w' = w := by
  obtain ⟨a, cap, rfl, h1, h2, h3⟩ := h
  unfold maxLen at h2
  by_cases hlt : i < zs.length
  · rcases h3 with h3 | ⟨b, off, rfl, h4⟩
    · subst h3; simp at hlt
    have hc := h4 i hlt
    have hb := hok _ (List.getElem_mem hlt)
    have hltI : (i : Int) < (zs.length : Int) := by omega
    clear h4 hok
    go_enter Try.func21, Try.ntmps21
    go_wp2
    go_ret
    exact ⟨_, rfl, hb.1, hb.2, rfl⟩
  · clear h3 hok
    go_enter Try.func21, Try.ntmps21
    go_wp2
    go_ret
    exact ⟨_, rfl, by omega, by omega, rfl⟩
/-- two arrays of sixteen in cells, handed back -/
theorem res2 {fn : Func} {p q : Tmp} (h : fn.results = #[.cell p 29, .cell q 29]) (tmps : Array Value) (w : World) (g g' : Nat) (cs cs' : Array Value)
    (hp : tmps.getD p undef = .pointer (some ⟨g, 0, none⟩)) (hg : Blk w g cs 29) (hs : cs.size = 16) (hq : tmps.getD q undef = .pointer (some ⟨g', 0, none⟩)) (hg' : Blk w g' cs' 29) (hs' : cs'.size = 16) :
    (results fn tmps).run Try.prog w = .ok (.tuple #[.agg cs, .agg cs']) w := by
  have hp' : tmps[p]?.getD undef = .pointer (some ⟨g, 0, none⟩) := by simpa using hp
  have hq' : tmps[q]?.getD undef = .pointer (some ⟨g', 0, none⟩) := by simpa using hq
  simp [results, h, hp', hq', asAddr, run_loadVar_row w g 29 29 cs (0, 0) _ hg Try.underlying29 rfl (by rw [hs]; exact size29), run_loadVar_row w g' 29 29 cs' (0, 0) _ hg' Try.underlying29 rfl (by rw [hs']; exact size29)]
set_option maxHeartbeats 1600000 in
theorem drawXor_c (v : Value) (zs : List Int) (w : World) (h : Rd .u8 w v zs) (hok : ∀ z ∈ zs, 0 ≤ z ∧ z ≤ 255) (hlen : zs.length ≤ 1048576) :
   Calls Try.prog 19 #[v] w fun e w' => ∃ a b, e = .returned (.tuple #[.agg (A16 a), .agg (A16 b)]) ∧ B16 a ∧ B16 b ∧ Below w.heap.size w w' := by
  have k0 : Blk ((w.alloc (.cells (A16 (List.replicate 16 0)) 29)).alloc (.cells (A16 (List.replicate 16 0)) 29)) w.heap.size (A16 (List.replicate 16 0)) 29 := (Blk.newAt _ _ _ _ rfl).alloc _
  have k1 : Blk ((w.alloc (.cells (A16 (List.replicate 16 0)) 29)).alloc (.cells (A16 (List.replicate 16 0)) 29)) (w.heap.size + 1) (A16 (List.replicate 16 0)) 29 := Blk.newAt _ _ _ _ (by simp)
  have hb0 : Below w.heap.size w ((w.alloc (.cells (A16 (List.replicate 16 0)) 29)).alloc (.cells (A16 (List.replicate 16 0)) 29)) := ((Below.refl _ _).alloc (Nat.le_refl _) _).alloc (by simp) _
  have hr0 := h.below hb0
  go_enter Try.func19, Try.ntmps19
  go_wp2_with fail
  refine (new_c v zs _ hr0 hok hlen).mono ?_
  rintro e w1 ⟨g, rfl, d1, hg, c1⟩
  have q0 := k0.below c1 k0.lt
  have q1 := k1.below c1 k1.lt
  have b1 := belowCall hb0 c1 (by simp; omega)
  simp at hg
  clear k0 k1 hb0 c1 hr0 hok h
  go_wp2_with fail
  refine (drawCell_c g v zs _ d1).mono ?_
  rintro e w2 ⟨a, rfl, ha, d2, g2⟩
  have r0 := q0.grown g2 (by omega)
  have r1 := q1.grown g2 (by omega)
  have b2 : Below w.heap.size w w2 := b1.grown g2 b1.size (fun j hj => by simp at hj; omega)
  go_wp2_with fail
  refine (drawCell_c g v zs _ d2).mono ?_
  rintro e w3 ⟨b, rfl, hb, d3, g3⟩
  have s0 := r0.grown g3 (by omega)
  have s1 := r1.grown g3 (by omega)
  have b3 : Below w.heap.size w w3 := b2.grown g3 b2.size (fun j hj => by simp at hj; omega)
  clear q0 q1 r0 r1 d1 d2 d3 g2 g3 b1 b2
  have s1' : Blk (w3.setRow w.heap.size (A16 a)) (w.heap.size + 1) (A16 (List.replicate 16 0)) 29 := s1.rowOther _ _ (by omega)
  have s0' := s0.row (A16 a)
  go_wp2_with (first | refine st29 rfl (.tmp 2) (.tmp 8) rfl w.heap.size rfl a ha rfl 29 _ s0 (A16_size Z_B) ?_ | refine st29 rfl (.tmp 3) (.tmp 10) rfl (w.heap.size + 1) rfl b hb rfl 29 _ s1' (A16_size Z_B) ?_)
  exact bodyPost_ret (v := .tuple #[.agg (A16 a), .agg (A16 b)]) (res2 rfl _ _ _ _ _ _ rfl (s0'.rowOther _ _ (by omega)) (A16_size ha) rfl (s1'.row _) (A16_size hb)) rfl ⟨a, b, rfl, ha, hb, belowRow (belowRow b3 _ (Nat.le_refl _) _) _ (by omega) _⟩
end Go.Proofs.Ytadhiddnjhjioaa
