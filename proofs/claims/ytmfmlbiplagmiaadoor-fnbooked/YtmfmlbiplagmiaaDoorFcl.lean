/- The closures of faults; no condition. -/
import Derived.Test.YtmfmlbiplagmiaaDoorFti
namespace Go.Proofs.YtmfmlbiplagmiaaDoor
open Go.RowKit Go.ChangeShapes Go.WideShapes Go.ChangeAt
set_option linter.unusedVariables false
set_option linter.unusedSimpArgs false
set_option maxRecDepth 8000

set_option maxHeartbeats 3200000 in
theorem isTwice_c (va vl vc : Value) (fl fc : List Int) (t : Tk) (i : Nat) (w : World) (hl : Rd .i64 w vl fl) (hc : Rd .i64 w vc fc) (b1 : 0 ≤ t.1 ∧ t.1 ≤ (fl.length : Int) - 1) (b2 : 0 ≤ t.2.1 ∧ t.2.1 ≤ (fl.length : Int) - 1) (b3 : -1 ≤ t.2.2 ∧ t.2.2 ≤ (fc.length : Int) - 1) :
   Calls Tryd.prog 71 #[.agg (B3 va vl vc), .agg #[.int .i64 t.1, .int .i64 t.2.1, .int .i64 t.2.2], .int .i64 (i : Int)] w fun e w' => e = .returned (.bool (twF fl fc t i)) ∧ Below w.heap.size w w' := by
  obtain ⟨x0, x1, x2⟩ := t
  dsimp only at b1 b2 b3 ⊢
  obtain ⟨q0, rfl⟩ : ∃ q : Nat, x0 = (q : Int) := ⟨x0.toNat, by omega⟩
  obtain ⟨q1, rfl⟩ : ∃ q : Nat, x1 = (q : Int) := ⟨x1.toNat, by omega⟩
  have h0 : q0 < fl.length := by omega
  have h1 : q1 < fl.length := by omega
  obtain ⟨b, off, cp, rfl, -, -, c0⟩ := rd_at hl h0
  obtain ⟨b', off', cp', he, -, -, c1⟩ := rd_at hl h1
  cases he
  obtain ⟨ca, cL, cc, hcv⟩ : ∃ a L c, vc = .slice a L c := by obtain ⟨a, c, e, -⟩ := hc; exact ⟨a, _, c, e⟩
  have HC : Hid (Rd .i64 w vc fc) := hc
  have HE : Hid (twF fl fc ((q0 : Int), (q1 : Int), x2) i = (decide (fl[q0] < (i : Int)) || (decide (fl[q1] < (i : Int)) || (decide (x2 ≠ -1) && decide (fc.getD x2.toNat 0 < (i : Int)))))) := by
    show _ = _
    unfold twF
    simp [List.getD, h0, h1]
  obtain ⟨Q, hQ⟩ : ∃ Q, twF fl fc ((q0 : Int), (q1 : Int), x2) i = Q := ⟨_, rfl⟩
  rw [hQ] at HE ⊢
  obtain ⟨z0, hz0⟩ : ∃ z, fl[q0] = z := ⟨_, rfl⟩
  obtain ⟨z1, hz1⟩ : ∃ z, fl[q1] = z := ⟨_, rfl⟩
  rw [hz0] at c0 HE
  rw [hz1] at c1 HE
  obtain ⟨n, hn⟩ : ∃ n, fl.length = n := ⟨_, rfl⟩
  have hi0 : (0 : Int) ≤ (q0 : Int) := b1.1
  have hi1 : (q0 : Int) < (n : Int) := by omega
  have hj0 : (0 : Int) ≤ (q1 : Int) := b2.1
  have hj1 : (q1 : Int) < (n : Int) := by omega
  have hbl : b < w.heap.size := block_lt_of_cell c0
  subst hcv
  have HB : Hid (Below w.heap.size w ((w.alloc (Obj.cells (B3 va (.slice (some ⟨b, off, none⟩) n cp) (.slice ca cL cc)) 27)).alloc (Obj.cells #[.int .i64 (q0 : Int), .int .i64 (q1 : Int), .int .i64 x2] 38))) := ((Below.refl _ _).alloc (Nat.le_refl _) _).alloc (by simp) _
  have H3 : Hid (-1 ≤ x2 ∧ x2 ≤ (fc.length : Int) - 1) := b3
  rw [hn]
  clear hl hc hQ hz0 hz1 hn h0 h1 b1 b2 b3
  go_enter Tryd.func71, Tryd.ntmps71
  by_cases g0 : z0 < (i : Int)
  · obtain rfl : Q = true := by rw [HE.out, decide_eq_true g0]; rfl
    go_wp2
    go_ret
    exact ⟨rfl, HB.out⟩
  have e0 : decide (z0 < (i : Int)) = false := decide_eq_false g0
  by_cases g1 : z1 < (i : Int)
  · obtain rfl : Q = true := by rw [HE.out, decide_eq_true g1]; simp
    go_wp2
    go_ret
    exact ⟨rfl, HB.out⟩
  have e1 : decide (z1 < (i : Int)) = false := decide_eq_false g1
  have HE1 : Hid (Q = (decide (x2 ≠ -1) && decide (fc.getD x2.toNat 0 < (i : Int)))) := by show _ = _; rw [HE.out, e0, e1]; rfl
  clear HE
  by_cases g2 : x2 = -1
  · obtain rfl : Q = false := by rw [HE1.out, decide_eq_false (by simpa using g2)]; rfl
    subst g2
    clear HE1
    go_wp2
    go_ret
    exact ⟨rfl, HB.out⟩
  obtain ⟨q2, rfl⟩ : ∃ q : Nat, x2 = (q : Int) := ⟨x2.toNat, by have := H3.out; omega⟩
  have h2 : q2 < fc.length := by have := H3.out; omega
  obtain ⟨d, of2, cp2, he, -, -, c2⟩ := rd_at HC.out h2
  cases he
  have hne : ((q2 : Int) != -1) = true := bne_iff_ne.2 g2
  have HE2 : Hid (Q = decide (fc[q2] < (i : Int))) := by
    show _ = _
    rw [HE1.out, decide_eq_true (show (q2 : Int) ≠ -1 from g2), Bool.true_and, Int.toNat_natCast]
    simp [List.getD, h2]
  obtain ⟨z2, hz2⟩ : ∃ z, fc[q2] = z := ⟨_, rfl⟩
  rw [hz2] at c2 HE2
  have hk0 : (0 : Int) ≤ (q2 : Int) := by omega
  have hk1 : (q2 : Int) < (fc.length : Int) := by omega
  have hbd : d < w.heap.size := block_lt_of_cell c2
  clear g2 HE1 hz2 h2
  by_cases g3 : z2 < (i : Int)
  · obtain rfl : Q = true := by rw [HE2.out, decide_eq_true g3]
    go_wp2
    go_ret
    exact ⟨rfl, HB.out⟩
  · have e3 : decide (z2 < (i : Int)) = false := decide_eq_false g3
    obtain rfl : Q = false := by rw [HE2.out, e3]
    go_wp2
    go_ret
    exact ⟨rfl, HB.out⟩
set_option maxHeartbeats 3200000 in
theorem clo1_c (X1 X2 : Nat) (fa fl' fc' va vl vc : Value) (ts : List Tk) (fl fc : List Int) (i : Nat) (w : World) (k1 : Blk w X1 (B3 fa fl' fc') 27) (k2 : Blk w X2 (B3 va vl vc) 27) (ht : Rg 3 tkC w va ts) (hl : Rd .i64 w fl' fl) (hc : Rd .i64 w fc' fc) (hi : i < ts.length)
    (hfa : ∃ a L c, fa = .slice a L c) (b1 : 0 ≤ ts[i].1 ∧ ts[i].1 ≤ (fl.length : Int) - 1) (b2 : 0 ≤ ts[i].2.1 ∧ ts[i].2.1 ≤ (fl.length : Int) - 1) (b3 : -1 ≤ ts[i].2.2 ∧ ts[i].2.2 ≤ (fc.length : Int) - 1) :
   Calls Tryd.prog 70 #[.int .i64 (i : Int), .pointer (some ⟨X1, 0, none⟩), .pointer (some ⟨X2, 0, none⟩)] w fun e w' => e = .returned (.bool (twF fl fc ts[i] i)) ∧ Below w.heap.size w w' := by
  obtain ⟨a0, L0, c0, rfl⟩ := hfa
  obtain ⟨la, lL, lc, hlv⟩ : ∃ a L c, fl' = .slice a L c := by obtain ⟨a, c, e, -⟩ := hl; exact ⟨a, _, c, e⟩
  obtain ⟨ca, cL, cc, hcv⟩ : ∃ a L c, fc' = .slice a L c := by obtain ⟨a, c, e, -⟩ := hc; exact ⟨a, _, c, e⟩
  subst hlv hcv
  have HCA : Hid (∀ W : Ov w, Calls Tryd.prog 71 #[.agg (B3 (.slice a0 L0 c0) (.slice la lL lc) (.slice ca cL cc)), .agg #[.int .i64 ts[i].1, .int .i64 ts[i].2.1, .int .i64 ts[i].2.2], .int .i64 (i : Int)] W.wd fun e w'' => e = .returned (.bool (twF fl fc ts[i] i)) ∧ ∃ W' : Ov w, w'' = W'.wd) := fun W => ov_call (isTwice_c _ _ _ fl fc ts[i] i W.wd (hl.below W.ok) (hc.below W.ok) b1 b2 b3)
  obtain ⟨tb, tof, tcp, rfl, -, -, d0, d1, d2⟩ := rg_at ht hi
  have y0 : ∀ W : Ov w, W.wd.cell? ⟨X1, 0, none⟩ = some (.slice a0 L0 c0) := fun W => (W.ok.cell k1.lt).trans (by have := k1.cell 0; simpa using this)
  have y1 : ∀ W : Ov w, W.wd.cell? ⟨X1, 1, none⟩ = some (.slice la lL lc) := fun W => (W.ok.cell k1.lt).trans (by have := k1.cell 1; simpa using this)
  have y2 : ∀ W : Ov w, W.wd.cell? ⟨X1, 2, none⟩ = some (.slice ca cL cc) := fun W => (W.ok.cell k1.lt).trans (by have := k1.cell 2; simpa using this)
  have x0 : ∀ W : Ov w, W.wd.cell? ⟨X2, 0, none⟩ = some (.slice (some ⟨tb, tof, none⟩) ts.length tcp) := fun W => (W.ok.cell k2.lt).trans (by have := k2.cell 0; simpa using this)
  have z0 : ∀ W : Ov w, W.wd.cell? ⟨tb, tof + i * 3, none⟩ = some (.int .i64 ts[i].1) := ov_cell d0
  have z1 : ∀ W : Ov w, W.wd.cell? ⟨tb, tof + i * 3 + 1, none⟩ = some (.int .i64 ts[i].2.1) := ov_cell d1
  have z2 : ∀ W : Ov w, W.wd.cell? ⟨tb, tof + i * 3 + 2, none⟩ = some (.int .i64 ts[i].2.2) := ov_cell d2
  obtain ⟨Q, hQ⟩ : ∃ Q, twF fl fc ts[i] i = Q := ⟨_, rfl⟩
  rw [hQ] at HCA ⊢
  obtain ⟨kk, hkk⟩ : ∃ x, ts[i] = x := ⟨_, rfl⟩
  rw [hkk] at HCA z0 z1 z2
  obtain ⟨t0, t1, t2⟩ := kk
  dsimp only at HCA z0 z1 z2
  have hi0 : (0 : Int) ≤ (i : Int) := by omega
  have hi1 : (i : Int) < (ts.length : Int) := by omega
  have ne : Nonempty (Ov w) := ⟨⟨_, Below.refl _ _⟩⟩
  clear k1 k2 ht hl hc b1 b2 b3 d0 d1 d2 hQ hkk
  go_enter Tryd.func70, Tryd.ntmps70
  go_wp2
  refine region_over (by kernel_rfl) (by kernel_rfl) ?_
  repeat (go_big_quiet_step (first | (go_at_call 71; exact HCA.out _)))
  refine wpQuiet_nil ?_
  rintro _ ⟨W, rfl⟩
  have HW : Hid (Below w.heap.size w W.wd) := W.ok
  go_wp2
  go_ret
  exact ⟨rfl, HW.out⟩
set_option maxHeartbeats 1600000 in
theorem clo2_c (X2 : Nat) (va vl vc : Value) (ts : List Tk) (i : Nat) (w : World) (k2 : Blk w X2 (B3 va vl vc) 27) (ht : Rg 3 tkC w va ts) (hi : i < ts.length) :
   Calls Tryd.prog 72 #[.int .i64 (i : Int), .pointer (some ⟨X2, 0, none⟩)] w fun e w' => e = .returned (.bool (seB ts i)) ∧ Below w.heap.size w w' := by
  obtain ⟨tb, tof, tcp, rfl, -, -, d0, d1, d2⟩ := rg_at ht hi
  have x0 := k2.cell 0
  simp at x0
  have HE : Hid (seB ts i = decide (ts[i].1 = ts[i].2.1)) := by show _ = _; unfold seB; simp [List.getD, hi]
  obtain ⟨Q, hQ⟩ : ∃ Q, seB ts i = Q := ⟨_, rfl⟩
  rw [hQ] at HE ⊢
  obtain ⟨kk, hkk⟩ : ∃ x, ts[i] = x := ⟨_, rfl⟩
  rw [hkk] at d0 d1 d2 HE
  obtain ⟨t0, t1, t2⟩ := kk
  dsimp only at d0 d1 d2
  have hi0 : (0 : Int) ≤ (i : Int) := by omega
  have hi1 : (i : Int) < (ts.length : Int) := by omega
  clear k2 ht hQ hkk
  go_enter Tryd.func72, Tryd.ntmps72
  go_wp2_with (fail)
  refine (isSelf_c t0 t1 t2 w).mono ?_
  rintro e w2 ⟨rfl, b⟩
  have HB : Hid (Below w.heap.size w w2) := b
  have hq : decide (t0 = t1) = Q := HE.out.symm
  rw [hq]
  clear b hq
  go_wp2
  go_ret
  exact ⟨rfl, HB.out⟩
set_option maxHeartbeats 3200000 in
theorem clo3_c (X1 X2 : Nat) (fv nv : Value) (fs zs : List Int) (i : Nat) (w : World) (k1 : Blk w X1 #[fv] 25) (k2 : Blk w X2 #[nv] 25) (hf : Rd .i64 w fv fs) (hz : Rd .i64 w nv zs) (hi : i < zs.length) (hlen : fs.length = zs.length) :
   Calls Tryd.prog 84 #[.int .i64 (i : Int), .pointer (some ⟨X1, 0, none⟩), .pointer (some ⟨X2, 0, none⟩)] w fun e w' => e = .returned (.bool (wrB zs fs i)) ∧ Below w.heap.size w w' := by
  obtain ⟨b, off, cp, rfl, -, -, c0⟩ := rd_at hf (show i < fs.length by omega)
  obtain ⟨d, of2, cp2, rfl, -, -, d0⟩ := rd_at hz hi
  have HE : Hid (wrB zs fs i = (decide (fs[i]'(by omega) ≠ -1) && decide (zs[i] ≠ fs[i]'(by omega)))) := by show _ = _; unfold wrB; simp [List.getD, hi, show i < fs.length by omega]
  obtain ⟨Q, hQ⟩ : ∃ Q, wrB zs fs i = Q := ⟨_, rfl⟩
  rw [hQ] at HE ⊢
  obtain ⟨f, hfi⟩ : ∃ z, fs[i]'(by omega) = z := ⟨_, rfl⟩
  obtain ⟨z, hzi⟩ : ∃ z, zs[i] = z := ⟨_, rfl⟩
  rw [hfi] at c0 HE
  rw [hzi] at d0 HE
  rw [hlen] at k1
  have x1 : ∀ W : Ov w, W.wd.cell? ⟨X1, 0, none⟩ = some (.slice (some ⟨b, off, none⟩) zs.length cp) := fun W => (W.ok.cell k1.lt).trans (by have := k1.cell 0; simpa using this)
  have x2 : ∀ W : Ov w, W.wd.cell? ⟨X2, 0, none⟩ = some (.slice (some ⟨d, of2, none⟩) zs.length cp2) := fun W => (W.ok.cell k2.lt).trans (by have := k2.cell 0; simpa using this)
  have y1 : ∀ W : Ov w, W.wd.cell? ⟨b, off + i, none⟩ = some (.int .i64 f) := ov_cell c0
  have y2 : ∀ W : Ov w, W.wd.cell? ⟨d, of2 + i, none⟩ = some (.int .i64 z) := ov_cell d0
  have hi0 : (0 : Int) ≤ (i : Int) := by omega
  have hi1 : (i : Int) < (zs.length : Int) := by omega
  have ne : Nonempty (Ov w) := ⟨⟨_, Below.refl _ _⟩⟩
  clear k1 k2 hf hz c0 d0 hQ hfi hzi hlen
  go_enter Tryd.func84, Tryd.ntmps84
  by_cases g : f = -1
  · have e1 : (f != -1) = false := by simp [g]
    obtain rfl : Q = false := by rw [HE.out, decide_eq_false (by simpa using g)]; rfl
    clear g HE
    go_wp2
    refine region_over (by kernel_rfl) (by kernel_rfl) ?_
    repeat (go_big_quiet_step (fail))
    refine wpQuiet_nil ?_
    rintro _ ⟨W, rfl⟩
    have HW : Hid (Below w.heap.size w W.wd) := W.ok
    go_wp2
    go_ret
    exact ⟨rfl, HW.out⟩
  have e1 : (f != -1) = true := bne_iff_ne.2 g
  have HE1 : Hid ((z != f) = Q) := by show _ = _; rw [HE.out, decide_eq_true (show f ≠ -1 from g), Bool.true_and]; simp [bne, Bool.beq_eq_decide_eq]
  have e2 := HE1.out
  clear g HE HE1
  go_wp2
  refine region_over (by kernel_rfl) (by kernel_rfl) ?_
  repeat (go_big_quiet_step (fail))
  refine wpQuiet_nil ?_
  rintro _ ⟨W, rfl⟩
  have HW : Hid (Below w.heap.size w W.wd) := W.ok
  go_wp2
  go_ret
  exact ⟨rfl, HW.out⟩
set_option maxHeartbeats 1600000 in
theorem clo4_c (X1 X2 : Nat) (fv nv : Value) (fs zs : List Int) (i : Nat) (w : World) (k1 : Blk w X1 #[fv] 25) (k2 : Blk w X2 #[nv] 25) (hf : Rd .i64 w fv fs) (hz : Rd .i64 w nv zs) (hi : i < zs.length) (hlen : fs.length = zs.length) :
   Calls Tryd.prog 85 #[.int .i64 (i : Int), .pointer (some ⟨X1, 0, none⟩), .pointer (some ⟨X2, 0, none⟩)] w fun e w' => e = .returned (.bool (frB' zs fs i)) ∧ Below w.heap.size w w' := by
  obtain ⟨b, off, cp, rfl, -, -, c0⟩ := rd_at hf (show i < fs.length by omega)
  obtain ⟨d, of2, cp2, rfl, -, -, d0⟩ := rd_at hz hi
  have HE : Hid (frB' zs fs i = (decide (fs[i]'(by omega) = -1) && decide (zs[i] ≠ -1))) := by show _ = _; unfold frB'; simp [List.getD, hi, show i < fs.length by omega]
  obtain ⟨Q, hQ⟩ : ∃ Q, frB' zs fs i = Q := ⟨_, rfl⟩
  rw [hQ] at HE ⊢
  obtain ⟨f, hfi⟩ : ∃ z, fs[i]'(by omega) = z := ⟨_, rfl⟩
  obtain ⟨z, hzi⟩ : ∃ z, zs[i] = z := ⟨_, rfl⟩
  rw [hfi] at c0 HE
  rw [hzi] at d0 HE
  rw [hlen] at k1
  have x1 := k1.cell 0
  have x2 := k2.cell 0
  simp at x1 x2
  have hi0 : (0 : Int) ≤ (i : Int) := by omega
  have hi1 : (i : Int) < (zs.length : Int) := by omega
  clear k1 k2 hf hz hQ hfi hzi hlen
  go_enter Tryd.func85, Tryd.ntmps85
  by_cases g : f = -1
  · have e1 : (f == -1) = true := by simp [g]
    have HE1 : Hid ((z != -1) = Q) := by show _ = _; rw [HE.out, decide_eq_true g, Bool.true_and]; simp [bne, Bool.beq_eq_decide_eq]
    have e2 := HE1.out
    clear g HE HE1
    go_wp2
    go_ret
    exact ⟨rfl, Below.refl _ _⟩
  · have e1 : (f == -1) = false := by simp [g]
    obtain rfl : Q = false := by rw [HE.out, decide_eq_false g]; rfl
    clear g HE
    go_wp2
    go_ret
    exact ⟨rfl, Below.refl _ _⟩

end Go.Proofs.YtmfmlbiplagmiaaDoor
