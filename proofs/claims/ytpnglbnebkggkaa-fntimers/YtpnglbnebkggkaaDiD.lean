/- What is told, the program's way; no condition. -/
import Derived.Test.YtpnglbnebkggkaaDiO
import Derived.Handy
namespace Go.Proofs.Ytpnglbnebkggkaa
open Go.RowKit Go.ChangeShapes Go.WideShapes Go.ChangeAt
set_option linter.unusedVariables false
set_option linter.unusedSimpArgs false
set_option maxRecDepth 8000
theorem as72_92 (v : Value) (w : World) : (Instr.typeAssert (.iface 72 v) 61 92 true).run Try.prog w = .ok (.tuple #[.agg #[.int .i64 0], .bool false]) w := by kernel_rfl
theorem as98_92 (v : Value) (w : World) : (Instr.typeAssert (.iface 98 v) 61 92 true).run Try.prog w = .ok (.tuple #[.agg #[.int .i64 0], .bool false]) w := by kernel_rfl
theorem as92_92 (v : Value) (w : World) : (Instr.typeAssert (.iface 92 v) 61 92 true).run Try.prog w = .ok (.tuple #[v, .bool true]) w := by kernel_rfl
theorem as93_92 (v : Value) (w : World) : (Instr.typeAssert (.iface 93 v) 61 92 true).run Try.prog w = .ok (.tuple #[.agg #[.int .i64 0], .bool false]) w := by kernel_rfl
theorem as72_93 (v : Value) (w : World) : (Instr.typeAssert (.iface 72 v) 61 93 true).run Try.prog w = .ok (.tuple #[.agg #[.int .i64 0], .bool false]) w := by kernel_rfl
theorem as98_93 (v : Value) (w : World) : (Instr.typeAssert (.iface 98 v) 61 93 true).run Try.prog w = .ok (.tuple #[.agg #[.int .i64 0], .bool false]) w := by kernel_rfl
theorem as92_93 (v : Value) (w : World) : (Instr.typeAssert (.iface 92 v) 61 93 true).run Try.prog w = .ok (.tuple #[.agg #[.int .i64 0], .bool false]) w := by kernel_rfl
theorem as93_93 (v : Value) (w : World) : (Instr.typeAssert (.iface 93 v) 61 93 true).run Try.prog w = .ok (.tuple #[v, .bool true]) w := by kernel_rfl
theorem code88_c (w : World) : Calls Try.prog 88 #[.agg #[]] w fun e w' => e = .returned (.int .i64 0) ∧ Below w.heap.size w w' := by
  have HB : Hid (Below w.heap.size w (w.alloc (Obj.cells #[] 72))) := (Below.refl _ _).alloc (Nat.le_refl _) _
  go_enter Try.func88, Try.ntmps88
  go_wp2
  go_ret
  exact ⟨rfl, HB.out⟩
theorem code89_c (k : Int) (w : World) : Calls Try.prog 89 #[.agg #[.int .i64 k]] w fun e w' => e = .returned (.int .i64 1) ∧ Below w.heap.size w w' := by
  have HB : Hid (Below w.heap.size w (w.alloc (Obj.cells #[.int .i64 k] 92))) := (Below.refl _ _).alloc (Nat.le_refl _) _
  go_enter Try.func89, Try.ntmps89
  go_wp2
  go_ret
  exact ⟨rfl, HB.out⟩
theorem code90_c (k : Int) (w : World) : Calls Try.prog 90 #[.agg #[.int .i64 k]] w fun e w' => e = .returned (.int .i64 2) ∧ Below w.heap.size w w' := by
  have HB : Hid (Below w.heap.size w (w.alloc (Obj.cells #[.int .i64 k] 93))) := (Below.refl _ _).alloc (Nat.le_refl _) _
  go_enter Try.func90, Try.ntmps90
  go_wp2
  go_ret
  exact ⟨rfl, HB.out⟩
theorem code91_c (w : World) : Calls Try.prog 91 #[.agg #[]] w fun e w' => e = .returned (.int .i64 3) ∧ Below w.heap.size w w' := by
  have HB : Hid (Below w.heap.size w (w.alloc (Obj.cells #[] 98))) := (Below.refl _ _).alloc (Nat.le_refl _) _
  go_enter Try.func91, Try.ntmps91
  go_wp2
  go_ret
  exact ⟨rfl, HB.out⟩
set_option maxHeartbeats 3200000 in
theorem dial72_c (v : Value) (ls : Rls) (s : ByteArray) (w : World) (h : Rr w v ls) : Calls Try.prog 30 #[v, .string s, .iface 72 (.agg #[])] w fun e w' => e = .returned (.agg (D4 0 (-1) ⟨#[]⟩ (-1))) ∧ Below w.heap.size w w' := by
  obtain ⟨a, cap, rfl, -⟩ := h
  obtain ⟨W0, hW0⟩ : ∃ W0, w.alloc (Obj.cells (D4 0 0 ⟨#[]⟩ 0) 28) = W0 := ⟨_, rfl⟩
  have K0 : Hid (Below w.heap.size w W0 ∧ Blk W0 w.heap.size (D4 0 0 ⟨#[]⟩ 0) 28) := hW0 ▸ ⟨(Below.refl _ _).alloc (Nat.le_refl _) _, Blk.new _ _ _⟩
  have HW0 : Hid (w.alloc (Obj.cells (D4 0 0 ⟨#[]⟩ 0) 28) = W0) := hW0
  have a1 := as72_92 (.agg #[])
  have a2 := as72_93 (.agg #[])
  clear hW0
  go_enter Try.func30, Try.ntmps30
  go_wp2_with (fail)
  rw [HW0.out]
  refine (code88_c W0).mono ?_
  rintro e w1 ⟨rfl, b1⟩
  have K1 : Hid (Below w.heap.size w w1 ∧ Blk w1 w.heap.size (D4 0 0 ⟨#[]⟩ 0) 28) := ⟨belowCall K0.out.1 b1 K0.out.1.size, K0.out.2.below b1 K0.out.2.lt⟩
  clear b1 K0 HW0
  go_wp2_with (fail)
  refine (without_c 0 w1).mono ?_
  rintro e w9 ⟨rfl, b9⟩
  have K9 : Hid (Below w.heap.size w w9 ∧ Blk w9 w.heap.size (D4 0 0 ⟨#[]⟩ 0) 28) := ⟨belowCall K1.out.1 b9 K1.out.1.size, K1.out.2.below b9 K1.out.2.lt⟩
  clear b9 K1 a1 a2
  have HF : Hid (∀ W4, (((w9.setCell ⟨w.heap.size, 0, none⟩ (.int .i64 0)).setCell ⟨w.heap.size, 1, none⟩ (.int .i64 (-1))).setCell ⟨w.heap.size, 2, none⟩ (.string ⟨#[]⟩)).setCell ⟨w.heap.size, 3, none⟩ (.int .i64 (-1)) = W4 → Blk W4 w.heap.size (D4 0 (-1) ⟨#[]⟩ (-1)) 28 ∧ Below w.heap.size w W4) := finD K9.out.2 K9.out.1 (Nat.le_refl _) _ _ _ _
  have d0 := K9.out.2.cell 0
  have d1 := K9.out.2.cell 1
  have d2 := K9.out.2.cell 2
  have d3 := K9.out.2.cell 3
  have f0 := K9.out.2.frozen 0
  have f1 := K9.out.2.frozen 1
  have f2 := K9.out.2.frozen 2
  have f3 := K9.out.2.frozen 3
  simp at d0 d1 d2 d3
  clear K9
  go_wp2
  exact bodyPost_ret (v := .agg (D4 0 (-1) ⟨#[]⟩ (-1))) (results_cell_row rfl _ _ _ 28 _ (0, 0) _ rfl (HF.out _ rfl).1 Try.underlying28 rfl size28) rfl ⟨rfl, (HF.out _ rfl).2⟩
set_option maxHeartbeats 3200000 in
theorem dial98_c (v : Value) (ls : Rls) (s : ByteArray) (w : World) (h : Rr w v ls) : Calls Try.prog 30 #[v, .string s, .iface 98 (.agg #[])] w fun e w' => e = .returned (.agg (D4 3 (-1) ⟨#[]⟩ (-1))) ∧ Below w.heap.size w w' := by
  obtain ⟨a, cap, rfl, -⟩ := h
  obtain ⟨W0, hW0⟩ : ∃ W0, w.alloc (Obj.cells (D4 0 0 ⟨#[]⟩ 0) 28) = W0 := ⟨_, rfl⟩
  have K0 : Hid (Below w.heap.size w W0 ∧ Blk W0 w.heap.size (D4 0 0 ⟨#[]⟩ 0) 28) := hW0 ▸ ⟨(Below.refl _ _).alloc (Nat.le_refl _) _, Blk.new _ _ _⟩
  have HW0 : Hid (w.alloc (Obj.cells (D4 0 0 ⟨#[]⟩ 0) 28) = W0) := hW0
  have a1 := as98_92 (.agg #[])
  have a2 := as98_93 (.agg #[])
  clear hW0
  go_enter Try.func30, Try.ntmps30
  go_wp2_with (fail)
  rw [HW0.out]
  refine (code91_c W0).mono ?_
  rintro e w1 ⟨rfl, b1⟩
  have K1 : Hid (Below w.heap.size w w1 ∧ Blk w1 w.heap.size (D4 0 0 ⟨#[]⟩ 0) 28) := ⟨belowCall K0.out.1 b1 K0.out.1.size, K0.out.2.below b1 K0.out.2.lt⟩
  clear b1 K0 HW0
  go_wp2_with (fail)
  refine (without_c 3 w1).mono ?_
  rintro e w9 ⟨rfl, b9⟩
  have K9 : Hid (Below w.heap.size w w9 ∧ Blk w9 w.heap.size (D4 0 0 ⟨#[]⟩ 0) 28) := ⟨belowCall K1.out.1 b9 K1.out.1.size, K1.out.2.below b9 K1.out.2.lt⟩
  clear b9 K1 a1 a2
  have HF : Hid (∀ W4, (((w9.setCell ⟨w.heap.size, 0, none⟩ (.int .i64 3)).setCell ⟨w.heap.size, 1, none⟩ (.int .i64 (-1))).setCell ⟨w.heap.size, 2, none⟩ (.string ⟨#[]⟩)).setCell ⟨w.heap.size, 3, none⟩ (.int .i64 (-1)) = W4 → Blk W4 w.heap.size (D4 3 (-1) ⟨#[]⟩ (-1)) 28 ∧ Below w.heap.size w W4) := finD K9.out.2 K9.out.1 (Nat.le_refl _) _ _ _ _
  have d0 := K9.out.2.cell 0
  have d1 := K9.out.2.cell 1
  have d2 := K9.out.2.cell 2
  have d3 := K9.out.2.cell 3
  have f0 := K9.out.2.frozen 0
  have f1 := K9.out.2.frozen 1
  have f2 := K9.out.2.frozen 2
  have f3 := K9.out.2.frozen 3
  simp at d0 d1 d2 d3
  clear K9
  go_wp2
  exact bodyPost_ret (v := .agg (D4 3 (-1) ⟨#[]⟩ (-1))) (results_cell_row rfl _ _ _ 28 _ (0, 0) _ rfl (HF.out _ rfl).1 Try.underlying28 rfl size28) rfl ⟨rfl, (HF.out _ rfl).2⟩
set_option maxHeartbeats 6400000 in
theorem dial92_c (v : Value) (ls : Rls) (s : ByteArray) (k : Nat) (w : World) (h : Rr w v ls) (hk : k < ls.length) (h0 : 0 ≤ ls[k].st) (h1 : ls[k].st ≤ s.size) (hs : s.size ≤ 1048576) (ha : ls[k].ad.size ≤ 1048576) :
   Calls Try.prog 30 #[v, .string s, .iface 92 (.agg #[.int .i64 (k : Int)])] w fun e w' => e = .returned (.agg (D4 1 ls[k].ro (numV ls[k] s) k)) ∧ Below w.heap.size w w' := by
  obtain ⟨a, cap, rfl, h1', h2', h3⟩ := h
  unfold maxLen at h2'
  rcases h3 with h3 | ⟨b, off, rfl, h4⟩
  · subst h3; simp at hk
  have hc := h4 k hk
  have hcb : b < w.heap.size := block_lt_of_cell hc.1
  obtain ⟨r, hr⟩ : ∃ r, ls[k] = r := ⟨_, rfl⟩
  rw [hr] at hc h0 h1 ha ⊢
  clear h4 hr
  have hkI : (k : Int) < (ls.length : Int) := by omega
  obtain ⟨st, hst⟩ : ∃ st : Nat, r.st = st := ⟨r.st.toNat, by omega⟩
  have HNV : Hid (numV r s = r.ad ++ s.extract st s.size) := by show numV r s = _; rw [numV, hst]; rfl
  rw [hst] at h1 hc
  have hs1 : st ≤ s.size := by omega
  have hstI : (st : Int) ≤ (s.size : Int) := by omega
  obtain ⟨W1, hW1⟩ : ∃ W1, (w.alloc (Obj.cells (D4 0 0 ⟨#[]⟩ 0) 28)).alloc (Obj.cells #[.int .i64 (k : Int)] 92) = W1 := ⟨_, rfl⟩
  obtain ⟨W2, hW2⟩ : ∃ W2, W1.alloc (Obj.cells #[.string r.pre, .int .i64 r.le, .int .i64 r.mo, .int .i64 r.ro, .int .i64 (st : Int), .string r.ad] 31) = W2 := ⟨_, rfl⟩
  have B1 : Below w.heap.size w W1 := hW1 ▸ ((Below.refl _ _).alloc (Nat.le_refl _) _).alloc (by simp) _
  have hz1 : W1.heap.size = w.heap.size + 2 := by rw [← hW1]; simp
  have KK : Hid ((Below w.heap.size w W2 ∧ Blk W2 w.heap.size (D4 0 0 ⟨#[]⟩ 0) 28) ∧ Blk W2 (w.heap.size + 2) #[.string r.pre, .int .i64 r.le, .int .i64 r.mo, .int .i64 r.ro, .int .i64 (st : Int), .string r.ad] 31) := hW2 ▸ ⟨⟨B1.alloc (by omega) _, (hW1 ▸ ((Blk.new _ _ _).alloc _ : Blk ((w.alloc (Obj.cells (D4 0 0 ⟨#[]⟩ 0) 28)).alloc (Obj.cells #[.int .i64 (k : Int)] 92)) w.heap.size (D4 0 0 ⟨#[]⟩ 0) 28)).alloc _⟩, Blk.newAt _ _ _ _ (by omega)⟩
  have HB1 : Hid (Below w.heap.size w W1) := B1
  have HC : Hid (w.cell? ⟨b, off + k * 6, none⟩ = some (.string r.pre) ∧ w.cell? ⟨b, off + k * 6 + 1, none⟩ = some (.int .i64 r.le) ∧ w.cell? ⟨b, off + k * 6 + 2, none⟩ = some (.int .i64 r.mo) ∧ w.cell? ⟨b, off + k * 6 + 3, none⟩ = some (.int .i64 r.ro) ∧ w.cell? ⟨b, off + k * 6 + 4, none⟩ = some (.int .i64 (st : Int)) ∧ w.cell? ⟨b, off + k * 6 + 5, none⟩ = some (.string r.ad)) := hc
  obtain ⟨e0, e1, e2, e3, e4, e5⟩ := hc
  have a1 := as92_92 (.agg #[.int .i64 (k : Int)])
  have HW : Hid (((w.alloc (Obj.cells (D4 0 0 ⟨#[]⟩ 0) 28)).alloc (Obj.cells #[.int .i64 (k : Int)] 92)).alloc (Obj.cells #[.string r.pre, .int .i64 r.le, .int .i64 r.mo, .int .i64 r.ro, .int .i64 (st : Int), .string r.ad] 31) = W2) := by show _ = _; rw [hW1]; exact hW2
  clear hW1 hW2 B1 hz1 hst h0 h1
  have y4 : ∀ W : Ov W2, W.wd.cell? ⟨w.heap.size + 2, 4, none⟩ = some (.int .i64 (st : Int)) := ov_cell (KK.out.2.cell 4)
  have y5 : ∀ W : Ov W2, W.wd.cell? ⟨w.heap.size + 2, 5, none⟩ = some (.string r.ad) := ov_cell (KK.out.2.cell 5)
  have ne : Nonempty (Ov W2) := ⟨⟨_, Below.refl _ _⟩⟩
  have HC56 : Hid (∀ W : Ov W2, Calls Try.prog 56 #[.string (r.ad ++ s.extract st s.size)] W.wd fun e w'' => e = .returned (.string (r.ad ++ s.extract st s.size)) ∧ ∃ W' : Ov W2, w'' = W'.wd) := fun W => ov_call (clone_c _ W.wd (by rw [ByteArray.size_append, ByteArray.size_extract]; omega))
  go_enter Try.func30, Try.ntmps30
  go_wp2
  rw [HW.out]
  refine region_over (by kernel_rfl) (by kernel_rfl) ?_
  repeat (go_big_quiet_step (first | (go_at_call 56; exact HC56.out _)))
  refine wpQuiet_nil ?_
  rintro _ ⟨W, rfl⟩
  obtain ⟨u1, hu1⟩ : ∃ x, W.wd = x := ⟨_, rfl⟩
  have K1 : Hid ((Below w.heap.size w u1 ∧ Blk u1 w.heap.size (D4 0 0 ⟨#[]⟩ 0) 28) ∧ Blk u1 (w.heap.size + 2) #[.string r.pre, .int .i64 r.le, .int .i64 r.mo, .int .i64 r.ro, .int .i64 (st : Int), .string r.ad] 31) := hu1 ▸ ⟨⟨belowCall KK.out.1.1 W.ok KK.out.1.1.size, KK.out.1.2.below W.ok KK.out.1.2.lt⟩, KK.out.2.below W.ok KK.out.2.lt⟩
  rw [hu1]
  clear hu1 W y4 y5 ne HC56 KK HW a1 e0 e1 e2 e3 e4 e5
  obtain ⟨nu, hnu⟩ : ∃ x, r.ad ++ s.extract st s.size = x := ⟨_, rfl⟩
  rw [hnu]
  rw [hnu] at HNV
  clear hnu
  obtain ⟨S, hS⟩ : ∃ S : World → Prop, ∀ W, S W ↔ Blk W (w.heap.size + 2) #[.string r.pre, .int .i64 r.le, .int .i64 r.mo, .int .i64 r.ro, .int .i64 (st : Int), .string r.ad] 31 := ⟨_, fun _ => Iff.rfl⟩
  have y3 : ∀ W : At S, W.wd.cell? ⟨w.heap.size + 2, 3, none⟩ = some (.int .i64 r.ro) := fun W => ((hS _).1 W.ok).cell 3
  have HSD : Hid (S u1.drew) := (hS _).2 K1.out.2
  have ne1 : Nonempty (At S) := ⟨⟨_, HSD.out⟩⟩
  have HSB : Hid (∀ W, Below u1.heap.size u1 W → S W) := fun W b => (hS _).2 (K1.out.2.below b K1.out.2.lt)
  clear hS
  go_wp2
  refine region_mixA [true, false, true, true, true, true, false, false] 7 2 S (by kernel_rfl) rfl (by kernel_rfl) (fun _ _ _ _ _ h => h) HSD.out ?_
  simp only [selT, selF]
  repeat (go_big_quiet_step (fail))
  refine wpQuiet_nil ?_
  clear y3 ne1 HSD
  refine tail_step ?_
  go_wp2_with (fail)
  refine (code89_c (k : Int) u1.drew).mono ?_
  rintro e q1 ⟨rfl, b1⟩
  have bq1 : Below u1.heap.size u1 q1 := (Below.refl _ _).drew.trans b1
  have HSQ : Hid (S q1) := HSB.out _ bq1
  have k0 : Blk q1 w.heap.size (D4 0 0 ⟨#[]⟩ 0) 28 := K1.out.1.2.below bq1 K1.out.1.2.lt
  have b2 : Below w.heap.size w q1 := belowCall K1.out.1.1 bq1 K1.out.1.1.size
  have K9 : Hid (Below w.heap.size w q1 ∧ Blk q1 w.heap.size (D4 0 0 ⟨#[]⟩ 0) 28) := ⟨b2, k0⟩
  clear bq1 b1 k0 b2 HSB K1
  go_wp2
  refine ⟨HSQ.out, tail_step ?_⟩
  go_wp2
  refine ⟨HSQ.out, tail_end ?_⟩
  clear HSQ S
  have d0 := K9.out.2.cell 0
  have d1 := K9.out.2.cell 1
  have d2 := K9.out.2.cell 2
  have d3 := K9.out.2.cell 3
  have f0 := K9.out.2.frozen 0
  have f1 := K9.out.2.frozen 1
  have f2 := K9.out.2.frozen 2
  have f3 := K9.out.2.frozen 3
  simp at d0 d1 d2 d3
  have HF : Hid (∀ W4, (((q1.setCell ⟨w.heap.size, 0, none⟩ (.int .i64 1)).setCell ⟨w.heap.size, 1, none⟩ (.int .i64 r.ro)).setCell ⟨w.heap.size, 2, none⟩ (.string nu)).setCell ⟨w.heap.size, 3, none⟩ (.int .i64 (k : Int)) = W4 → Blk W4 w.heap.size (D4 1 r.ro nu k) 28 ∧ Below w.heap.size w W4) := finD K9.out.2 K9.out.1 (Nat.le_refl _) 1 r.ro _ k
  go_wp2
  rw [HNV.out]
  exact bodyPost_ret (v := .agg (D4 1 r.ro nu k)) (results_cell_row rfl _ _ _ 28 _ (0, 0) _ rfl (HF.out _ rfl).1 Try.underlying28 rfl size28) rfl ⟨rfl, (HF.out _ rfl).2⟩
set_option maxHeartbeats 6400000 in
theorem dial93_c (v : Value) (ls : Rls) (s : ByteArray) (k : Nat) (w : World) (h : Rr w v ls) (hk : k < ls.length) (h0 : 0 ≤ ls[k].st) (h1 : ls[k].st ≤ s.size) (hs : s.size ≤ 1048576) (ha : ls[k].ad.size ≤ 1048576) :
   Calls Try.prog 30 #[v, .string s, .iface 93 (.agg #[.int .i64 (k : Int)])] w fun e w' => e = .returned (.agg (D4 2 ls[k].ro (numV ls[k] s) k)) ∧ Below w.heap.size w w' := by
  obtain ⟨a, cap, rfl, h1', h2', h3⟩ := h
  unfold maxLen at h2'
  rcases h3 with h3 | ⟨b, off, rfl, h4⟩
  · subst h3; simp at hk
  have hc := h4 k hk
  have hcb : b < w.heap.size := block_lt_of_cell hc.1
  obtain ⟨r, hr⟩ : ∃ r, ls[k] = r := ⟨_, rfl⟩
  rw [hr] at hc h0 h1 ha ⊢
  clear h4 hr
  have hkI : (k : Int) < (ls.length : Int) := by omega
  obtain ⟨st, hst⟩ : ∃ st : Nat, r.st = st := ⟨r.st.toNat, by omega⟩
  have HNV : Hid (numV r s = r.ad ++ s.extract st s.size) := by show numV r s = _; rw [numV, hst]; rfl
  rw [hst] at h1 hc
  have hs1 : st ≤ s.size := by omega
  have hstI : (st : Int) ≤ (s.size : Int) := by omega
  obtain ⟨W1, hW1⟩ : ∃ W1, (w.alloc (Obj.cells (D4 0 0 ⟨#[]⟩ 0) 28)).alloc (Obj.cells #[.int .i64 (k : Int)] 93) = W1 := ⟨_, rfl⟩
  obtain ⟨W2, hW2⟩ : ∃ W2, W1.alloc (Obj.cells #[.string r.pre, .int .i64 r.le, .int .i64 r.mo, .int .i64 r.ro, .int .i64 (st : Int), .string r.ad] 31) = W2 := ⟨_, rfl⟩
  have B1 : Below w.heap.size w W1 := hW1 ▸ ((Below.refl _ _).alloc (Nat.le_refl _) _).alloc (by simp) _
  have hz1 : W1.heap.size = w.heap.size + 2 := by rw [← hW1]; simp
  have KK : Hid ((Below w.heap.size w W2 ∧ Blk W2 w.heap.size (D4 0 0 ⟨#[]⟩ 0) 28) ∧ Blk W2 (w.heap.size + 2) #[.string r.pre, .int .i64 r.le, .int .i64 r.mo, .int .i64 r.ro, .int .i64 (st : Int), .string r.ad] 31) := hW2 ▸ ⟨⟨B1.alloc (by omega) _, (hW1 ▸ ((Blk.new _ _ _).alloc _ : Blk ((w.alloc (Obj.cells (D4 0 0 ⟨#[]⟩ 0) 28)).alloc (Obj.cells #[.int .i64 (k : Int)] 93)) w.heap.size (D4 0 0 ⟨#[]⟩ 0) 28)).alloc _⟩, Blk.newAt _ _ _ _ (by omega)⟩
  have HB1 : Hid (Below w.heap.size w W1) := B1
  have HC : Hid (w.cell? ⟨b, off + k * 6, none⟩ = some (.string r.pre) ∧ w.cell? ⟨b, off + k * 6 + 1, none⟩ = some (.int .i64 r.le) ∧ w.cell? ⟨b, off + k * 6 + 2, none⟩ = some (.int .i64 r.mo) ∧ w.cell? ⟨b, off + k * 6 + 3, none⟩ = some (.int .i64 r.ro) ∧ w.cell? ⟨b, off + k * 6 + 4, none⟩ = some (.int .i64 (st : Int)) ∧ w.cell? ⟨b, off + k * 6 + 5, none⟩ = some (.string r.ad)) := hc
  obtain ⟨e0, e1, e2, e3, e4, e5⟩ := hc
  have a1 := as93_93 (.agg #[.int .i64 (k : Int)])
  have a0 := as93_92 (.agg #[.int .i64 (k : Int)])
  have HW : Hid (((w.alloc (Obj.cells (D4 0 0 ⟨#[]⟩ 0) 28)).alloc (Obj.cells #[.int .i64 (k : Int)] 93)).alloc (Obj.cells #[.string r.pre, .int .i64 r.le, .int .i64 r.mo, .int .i64 r.ro, .int .i64 (st : Int), .string r.ad] 31) = W2) := by show _ = _; rw [hW1]; exact hW2
  clear hW1 hW2 B1 hz1 hst h0 h1
  have y4 : ∀ W : Ov W2, W.wd.cell? ⟨w.heap.size + 2, 4, none⟩ = some (.int .i64 (st : Int)) := ov_cell (KK.out.2.cell 4)
  have y5 : ∀ W : Ov W2, W.wd.cell? ⟨w.heap.size + 2, 5, none⟩ = some (.string r.ad) := ov_cell (KK.out.2.cell 5)
  have ne : Nonempty (Ov W2) := ⟨⟨_, Below.refl _ _⟩⟩
  have HC56 : Hid (∀ W : Ov W2, Calls Try.prog 56 #[.string (r.ad ++ s.extract st s.size)] W.wd fun e w'' => e = .returned (.string (r.ad ++ s.extract st s.size)) ∧ ∃ W' : Ov W2, w'' = W'.wd) := fun W => ov_call (clone_c _ W.wd (by rw [ByteArray.size_append, ByteArray.size_extract]; omega))
  go_enter Try.func30, Try.ntmps30
  go_wp2
  rw [HW.out]
  refine region_over (by kernel_rfl) (by kernel_rfl) ?_
  repeat (go_big_quiet_step (first | (go_at_call 56; exact HC56.out _)))
  refine wpQuiet_nil ?_
  rintro _ ⟨W, rfl⟩
  obtain ⟨u1, hu1⟩ : ∃ x, W.wd = x := ⟨_, rfl⟩
  have K1 : Hid ((Below w.heap.size w u1 ∧ Blk u1 w.heap.size (D4 0 0 ⟨#[]⟩ 0) 28) ∧ Blk u1 (w.heap.size + 2) #[.string r.pre, .int .i64 r.le, .int .i64 r.mo, .int .i64 r.ro, .int .i64 (st : Int), .string r.ad] 31) := hu1 ▸ ⟨⟨belowCall KK.out.1.1 W.ok KK.out.1.1.size, KK.out.1.2.below W.ok KK.out.1.2.lt⟩, KK.out.2.below W.ok KK.out.2.lt⟩
  rw [hu1]
  clear hu1 W y4 y5 ne HC56 KK HW a1 e0 e1 e2 e3 e4 e5 a0
  obtain ⟨nu, hnu⟩ : ∃ x, r.ad ++ s.extract st s.size = x := ⟨_, rfl⟩
  rw [hnu]
  rw [hnu] at HNV
  clear hnu
  obtain ⟨S, hS⟩ : ∃ S : World → Prop, ∀ W, S W ↔ Blk W (w.heap.size + 2) #[.string r.pre, .int .i64 r.le, .int .i64 r.mo, .int .i64 r.ro, .int .i64 (st : Int), .string r.ad] 31 := ⟨_, fun _ => Iff.rfl⟩
  have y3 : ∀ W : At S, W.wd.cell? ⟨w.heap.size + 2, 3, none⟩ = some (.int .i64 r.ro) := fun W => ((hS _).1 W.ok).cell 3
  have HSD : Hid (S u1.drew) := (hS _).2 K1.out.2
  have ne1 : Nonempty (At S) := ⟨⟨_, HSD.out⟩⟩
  have HSB : Hid (∀ W, Below u1.heap.size u1 W → S W) := fun W b => (hS _).2 (K1.out.2.below b K1.out.2.lt)
  clear hS
  go_wp2
  refine region_mixA [true, false, true, true, true, true, false, false] 7 2 S (by kernel_rfl) rfl (by kernel_rfl) (fun _ _ _ _ _ h => h) HSD.out ?_
  simp only [selT, selF]
  repeat (go_big_quiet_step (fail))
  refine wpQuiet_nil ?_
  clear y3 ne1 HSD
  refine tail_step ?_
  go_wp2_with (fail)
  refine (code90_c (k : Int) u1.drew).mono ?_
  rintro e q1 ⟨rfl, b1⟩
  have bq1 : Below u1.heap.size u1 q1 := (Below.refl _ _).drew.trans b1
  have HSQ : Hid (S q1) := HSB.out _ bq1
  have k0 : Blk q1 w.heap.size (D4 0 0 ⟨#[]⟩ 0) 28 := K1.out.1.2.below bq1 K1.out.1.2.lt
  have b2 : Below w.heap.size w q1 := belowCall K1.out.1.1 bq1 K1.out.1.1.size
  have K9 : Hid (Below w.heap.size w q1 ∧ Blk q1 w.heap.size (D4 0 0 ⟨#[]⟩ 0) 28) := ⟨b2, k0⟩
  clear bq1 b1 k0 b2 HSB K1
  go_wp2
  refine ⟨HSQ.out, tail_step ?_⟩
  go_wp2
  refine ⟨HSQ.out, tail_end ?_⟩
  clear HSQ S
  have d0 := K9.out.2.cell 0
  have d1 := K9.out.2.cell 1
  have d2 := K9.out.2.cell 2
  have d3 := K9.out.2.cell 3
  have f0 := K9.out.2.frozen 0
  have f1 := K9.out.2.frozen 1
  have f2 := K9.out.2.frozen 2
  have f3 := K9.out.2.frozen 3
  simp at d0 d1 d2 d3
  have HF : Hid (∀ W4, (((q1.setCell ⟨w.heap.size, 0, none⟩ (.int .i64 2)).setCell ⟨w.heap.size, 1, none⟩ (.int .i64 r.ro)).setCell ⟨w.heap.size, 2, none⟩ (.string nu)).setCell ⟨w.heap.size, 3, none⟩ (.int .i64 (k : Int)) = W4 → Blk W4 w.heap.size (D4 2 r.ro nu k) 28 ∧ Below w.heap.size w W4) := finD K9.out.2 K9.out.1 (Nat.le_refl _) 2 r.ro _ k
  go_wp2
  rw [HNV.out]
  exact bodyPost_ret (v := .agg (D4 2 r.ro nu k)) (results_cell_row rfl _ _ _ 28 _ (0, 0) _ rfl (HF.out _ rfl).1 Try.underlying28 rfl size28) rfl ⟨rfl, (HF.out _ rfl).2⟩
end Go.Proofs.Ytpnglbnebkggkaa
