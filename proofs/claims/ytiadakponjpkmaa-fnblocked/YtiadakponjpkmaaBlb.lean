/- Ratios at work: lowest terms; no condition. -/
import Derived.Test.YtiadakponjpkmaaBla
namespace Go.Proofs.Ytiadakponjpkmaa
open Go.RowKit Go.ChangeShapes Go.WideShapes Go.ChangeAt
set_option linter.unusedVariables false
set_option linter.unusedSimpArgs false
set_option maxRecDepth 8000

theorem szR : (Try.prog.info? 78).map (·.size) = some 2 := by kernel_rfl
theorem szF : (Try.prog.info? 27).map (·.size) = some 2 := by kernel_rfl
theorem Blk.set2 {w : World} {g : Nat} {t : TypeId} {u v : Value} (h : Blk w g #[u, v] t) (x y : Value) : Blk ((w.setCell ⟨g, 0, none⟩ x).setCell ⟨g, 1, none⟩ y) g #[x, y] t := (h.set 0 x).set 1 y
theorem below_set2 {B : Nat} {a w : World} (h : Below B a w) (g : Nat) (hg : B ≤ g) (x y : Value) : Below B a ((w.setCell ⟨g, 0, none⟩ x).setCell ⟨g, 1, none⟩ y) := (h.setCell (p := ⟨g, 0, none⟩) hg x).setCell (p := ⟨g, 1, none⟩) hg y
def rt (p : Nat × Nat) : Value := .agg #[.int .i64 (p.1 : Int), .int .i64 (p.2 : Int)]
set_option maxHeartbeats 1600000 in
theorem low_c (a b : Nat) (w : World) (ha : a ≤ 4611686018427387904) (hb : b ≤ 4611686018427387904) (h0 : 0 < b) : Calls Try.prog 72 #[.agg #[.int .i64 (a : Int), .int .i64 (b : Int)]] w fun e w' => e = .returned (rt (low a b)) ∧ Below w.heap.size w w' := by
  have HA : Hid (a ≤ 4611686018427387904) := ha
  have HB : Hid (b ≤ 4611686018427387904) := hb
  have HG0 : 0 < Nat.gcd a b := Nat.gcd_pos_of_pos_right _ h0
  have hq1 : Int.tdiv (a : Int) (Nat.gcd a b : Int) = (((low a b).1 : Nat) : Int) := by rw [Int.tdiv_eq_ediv_of_nonneg (by omega)]; simp [low]
  have hq2 : Int.tdiv (b : Int) (Nat.gcd a b : Int) = (((low a b).2 : Nat) : Int) := by rw [Int.tdiv_eq_ediv_of_nonneg (by omega)]; simp [low]
  have hl := low_le a b
  obtain ⟨x, hx⟩ : ∃ x, (low a b).1 = x := ⟨_, rfl⟩
  obtain ⟨y, hy⟩ : ∃ y, (low a b).2 = y := ⟨_, rfl⟩
  have HE : Hid (rt (low a b) = .agg #[.int .i64 (x : Int), .int .i64 (y : Int)]) := by show _ = _; rw [rt, hx, hy]
  rw [hx] at hq1 hl
  rw [hy] at hq2 hl
  rw [HE.out]
  have HC : Hid (∀ W, Calls Try.prog 81 #[.int .i64 (a : Int), .int .i64 (b : Int)] W fun e w' => e = .returned (.int .i64 (Nat.gcd a b)) ∧ w' = W) := fun W => gcdI_c a b W ha hb
  obtain ⟨G, hG⟩ : ∃ G, Nat.gcd a b = G := ⟨_, rfl⟩
  rw [hG] at HG0 hq1 hq2 HC
  have hw1 : wrap64 ((x : Nat) : Int) = (x : Int) := wrap64_in (by omega)
  have hw2 : wrap64 ((y : Nat) : Int) = (y : Int) := wrap64_in (by omega)
  clear ha hb hx hy hl hG h0
  have hg1 : ¬ ((G : Int) = 0) := by omega
  have hg2 : ((G : Int) == 0) = false := by simp; omega
  go_enter Try.func72, Try.ntmps72
  go_wp2_with (fail)
  refine (HC.out _).mono ?_
  rintro e w1 ⟨rfl, hw⟩
  rw [hw]
  clear hw w1
  have H1 : Hid (Blk ((w.alloc (.cells #[.int .i64 (a : Int), .int .i64 (b : Int)] 78)).alloc (.cells #[.int .i64 0, .int .i64 0] 78)) w.heap.size #[.int .i64 (a : Int), .int .i64 (b : Int)] 78) := (Blk.new _ _ _).alloc _
  have H2 : Hid (Blk ((w.alloc (.cells #[.int .i64 (a : Int), .int .i64 (b : Int)] 78)).alloc (.cells #[.int .i64 0, .int .i64 0] 78)) (w.heap.size + 1) #[.int .i64 0, .int .i64 0] 78) := Blk.newAt _ _ _ _ (by simp)
  have HBW : Hid (Below w.heap.size w ((w.alloc (.cells #[.int .i64 (a : Int), .int .i64 (b : Int)] 78)).alloc (.cells #[.int .i64 0, .int .i64 0] 78))) := ((Below.refl _ _).alloc (Nat.le_refl _) _).alloc (by simp) _
  obtain ⟨W, hW⟩ : ∃ W, ((w.alloc (.cells #[.int .i64 (a : Int), .int .i64 (b : Int)] 78)).alloc (.cells #[.int .i64 0, .int .i64 0] 78)) = W := ⟨_, rfl⟩
  rw [hW] at H1 H2 HBW ⊢
  obtain ⟨g, hg⟩ : ∃ g, w.heap.size = g := ⟨_, rfl⟩
  rw [hg] at H1 H2 HBW ⊢
  have HGE : Hid (w.heap.size = g) := hg
  clear hW hg
  obtain ⟨S, hS⟩ : ∃ S : World → Prop, S = fun W' => Blk W' g #[.int .i64 (a : Int), .int .i64 (b : Int)] 78 := ⟨_, rfl⟩
  have HSD : Hid (S W.drew) := by show S _; rw [hS]; exact H1.out.drew
  have HSF : ∀ W', S W' → Blk W' g #[.int .i64 (a : Int), .int .i64 (b : Int)] 78 := fun W' h => by rw [hS] at h; exact h
  have y0 : ∀ V : At S, V.wd.cell? ⟨g, 0, none⟩ = some (.int .i64 (a : Int)) := fun V => (HSF _ V.ok).cell 0
  have y1 : ∀ V : At S, V.wd.cell? ⟨g, 1, none⟩ = some (.int .i64 (b : Int)) := fun V => (HSF _ V.ok).cell 1
  have ne : Nonempty (At S) := ⟨⟨_, HSD.out⟩⟩
  clear hS HSF
  go_wp2
  refine region_mixT [true, true, true, true, true, true, true, true, true, false] 9 0 S (by kernel_rfl) rfl (by kernel_rfl) (fun _ _ _ _ _ h => h) HSD.out ?_
  simp only [selT, selF]
  try simp only [Act.put]
  repeat (go_big_quiet_step (fail))
  refine wpQuiet_nil ?_
  refine tail_end ?_
  have H2D : Hid (Blk W.drew (g + 1) #[.int .i64 0, .int .i64 0] 78) := H2.out.drew
  have HBD : Hid (Below g w W.drew) := HBW.out.drew
  clear H1 H2 HBW y0 y1 ne
  obtain ⟨V, hV⟩ : ∃ V, W.drew = V := ⟨_, rfl⟩
  rw [hV] at H2D HBD ⊢
  clear hV HSD
  have c0 : V.cell? ⟨g + 1, 0, none⟩ = some (.int .i64 0) := H2D.out.cell 0
  have c1 : V.cell? ⟨g + 1, 1, none⟩ = some (.int .i64 0) := H2D.out.cell 1
  have z0 : V.frozen? ⟨g + 1, 0, none⟩ = false := H2D.out.frozen 0
  have z1 : V.frozen? ⟨g + 1, 1, none⟩ = false := H2D.out.frozen 1
  have HF : Hid (∀ x y, Blk ((V.setCell ⟨g + 1, 0, none⟩ x).setCell ⟨g + 1, 1, none⟩ y) (g + 1) #[x, y] 78 ∧ Below g w ((V.setCell ⟨g + 1, 0, none⟩ x).setCell ⟨g + 1, 1, none⟩ y)) := fun x y => ⟨H2D.out.set2 x y, below_set2 HBD.out _ (by omega) _ _⟩
  go_wp2
  exact bodyPost_ret (results_cell_row rfl _ _ _ 78 _ (0, 0) _ rfl (HF.out _ _).1 Try.underlying78 rfl szR) rfl ⟨rfl, by rw [HGE.out]; exact (HF.out _ _).2⟩

end Go.Proofs.Ytiadakponjpkmaa
