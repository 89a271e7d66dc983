/- The path that ends, or begins, at a switch with a Mid: the program's; no condition. -/
import Derived.Test.YtikhfeafbckjlaaDoorFVal
namespace Go.Proofs.YtikhfeafbckjlaaDoor
open Go.RowKit Go.ChangeShapes Go.WideShapes Go.ChangeAt
set_option linter.unusedVariables false
set_option linter.unusedSimpArgs false
set_option maxRecDepth 8000
/-- what a closure has captured: the fabric, a switch, a Mid -/
structure Cap (s p m : Int) (v : Value) (side mid : Int) (BF BO BM : Nat) (w : World) : Prop where
  f : Blk w BF (F4 s p m v) 26
  o : Blk w BO #[.int .i64 side] 3
  m : Blk w BM #[.int .i64 mid] 3
theorem Cap.below {s p m : Int} {v : Value} {side mid : Int} {BF BO BM : Nat} {w w' : World} (h : Cap s p m v side mid BF BO BM w) (hb : Below w.heap.size w w') : Cap s p m v side mid BF BO BM w' :=
  ⟨h.f.below hb h.f.lt, h.o.below hb h.o.lt, h.m.below hb h.m.lt⟩
set_option maxHeartbeats 1600000 in
theorem Into1_c (s p m side mid : Int) (v : Value) (x y z : Int) (BF BO BM : Nat) (w : World) (hC : Cap s p m v side mid BF BO BM w) (hp1 : 1 ≤ p) (hp4 : p ≤ 4) (hx0 : 0 ≤ x) (hx2 : x ≤ 23) (hy0 : 0 ≤ y) (hy2 : y ≤ 23) :
    Calls Tryd.prog 72 #[.agg (P3 x y z), .pointer (some ⟨BF, 0, none⟩), .pointer (some ⟨BO, 0, none⟩), .pointer (some ⟨BM, 0, none⟩)] w fun e w' => e = .returned (.bool (outQ p side mid (x, y, z))) ∧ Below w.heap.size w w' := by
  have HB : Hid (Below w.heap.size w (w.alloc (Obj.cells (P3 x y z) 35))) := (Below.refl _ _).alloc (Nat.le_refl _) _
  have l1 := hC.f.lt
  have l2 := hC.o.lt
  have l3 := hC.m.lt
  have c1 := hC.f.cell 1
  have c2 := hC.o.cell 0
  have c3 := hC.m.cell 0
  simp at c1 c2 c3
  have hp0 : p ≠ 0 := by omega
  have HQ : Hid (outQ p side mid (x, y, z) = ((y / p == side) && (z == mid))) := rfl
  obtain ⟨q1, e1⟩ : ∃ q, (y / p == side) = q := ⟨_, rfl⟩
  obtain ⟨q2, e2⟩ : ∃ q, (z == mid) = q := ⟨_, rfl⟩
  rw [e1, e2] at HQ
  clear hC
  go_enter Tryd.func72, Tryd.ntmps72
  cases q1 with
  | false =>
    go_wp2
    go_quiet (fail)
    go_wp2
    go_ret
    exact ⟨by rw [HQ.out]; rfl, below_drewN HB.out _⟩
  | true =>
    cases q2 with
    | false =>
      go_wp2
      go_quiet (fail)
      go_wp2
      go_ret
      exact ⟨by rw [HQ.out]; rfl, below_drewN HB.out _⟩
    | true =>
      go_wp2
      go_quiet (fail)
      go_wp2
      go_ret
      exact ⟨by rw [HQ.out]; rfl, below_drewN HB.out _⟩
set_option maxHeartbeats 1600000 in
theorem indexInto_c (s p m side mid : Int) (v : Value) (ps : Tri) (vf : Value) (BF BO BM : Nat) (w : World) (h : Rt w v ps) (hR : InR ps) (hC : Cap s p m vf side mid BF BO BM w) (hp1 : 1 ≤ p) (hp4 : p ≤ 4) :
   Calls Tryd.prog 67 #[v, .func (.func 72) #[] #[.pointer (some ⟨BF, 0, none⟩), .pointer (some ⟨BO, 0, none⟩), .pointer (some ⟨BM, 0, none⟩)]] w (IxE (outQ p side mid) ps w) := by
  obtain ⟨a, cap, rfl, h1, h2, h3⟩ := h
  unfold maxLen at h2
  have HK : Hid (Cap s p m vf side mid BF BO BM w) := hC
  have HR : Hid (InR ps) := hR
  clear hC hR
  go_enter Tryd.func67, Tryd.ntmps67
  go_wp2
  go_loopw [8] (fun i wr => ∃ j : Nat, j ≤ ps.length ∧ i = .int .i64 j ∧ Hid (∀ t (ht : t < j) (h : t < ps.length), outQ p side mid ps[t] = false) ∧ Hid (Below w.heap.size w wr)) (fun i _ => ps.length - (intOf i).toNat)
  case atStart => exact ⟨0, Nat.zero_le _, rfl, fun t ht => by omega, Below.refl _ _⟩
  case round =>
    obtain ⟨j, hj, rfl, hA, hbr⟩ := hrel
    by_cases hlt : j < ps.length
    case neg =>
      obtain rfl : j = ps.length := by omega
      have HN : Hid (None3 (outQ p side mid) ps) := fun i h => hA.out i h h
      clear h3
      go_wp2
      go_ret
      exact IxE.none HN.out hbr.out
    case pos =>
    rcases h3 with h3 | ⟨b, off, rfl, h4⟩
    · subst h3; simp at hlt
    have hc := h4 j hlt
    have hcb : b < w.heap.size := block_lt_of_cell hc.1
    obtain ⟨x, ex⟩ : ∃ x, ps[j].1 = x := ⟨_, rfl⟩
    obtain ⟨y, ey⟩ : ∃ y, ps[j].2.1 = y := ⟨_, rfl⟩
    obtain ⟨z, ez⟩ : ∃ z, ps[j].2.2 = z := ⟨_, rfl⟩
    have HX : Hid (ps[j] = (x, y, z)) := by rw [← ex, ← ey, ← ez]; rfl
    have hr := HR.out ps[j] (List.getElem_mem hlt)
    rw [HX.out] at hr
    obtain ⟨⟨x1, x2⟩, ⟨y1, y2⟩⟩ := hr
    dsimp only at x1 x2 y1 y2
    rw [ex, ey, ez] at hc
    have c0 := (hbr.out.cell (p := ⟨b, off + j * 3, none⟩) hcb).trans hc.1
    have c1 := (hbr.out.cell (p := ⟨b, off + j * 3 + 1, none⟩) hcb).trans hc.2.1
    have c2 := (hbr.out.cell (p := ⟨b, off + j * 3 + 2, none⟩) hcb).trans hc.2.2
    clear h4 hc ex ey ez
    go_wp2_with (fail)
    refine (Into1_c s p m side mid vf x y z BF BO BM wr (HK.out.below hbr.out) hp1 hp4 x1 x2 y1 y2).mono ?_
    rintro e w2 ⟨rfl, b2⟩
    have HB2 : Hid (Below w.heap.size w w2) := belowCall hbr.out b2 hbr.out.size
    clear b2
    obtain ⟨t, ht⟩ : ∃ t, outQ p side mid (x, y, z) = t := ⟨_, rfl⟩
    rw [ht]
    have HT : Hid (outQ p side mid (x, y, z) = t) := ht
    clear ht
    cases t with
    | true =>
      have HF : Hid (Fst (outQ p side mid) ps j) := ⟨hlt, by rw [HX.out]; exact HT.out, fun i hi => hA.out i hi (by omega)⟩
      go_wp2
      go_ret
      exact IxE.found HF.out HB2.out
    | false =>
      have HF : Hid (∀ t (ht : t < j + 1) (h : t < ps.length), outQ p side mid ps[t] = false) := fun t ht h => by
        by_cases htj : t < j
        · exact hA.out t htj h
        · obtain rfl : t = j := by omega
          rw [HX.out]; exact HT.out
      go_wp2
      go_roundw
      case rel => exact ⟨j + 1, by omega, by go_num, HF.out, HB2.out⟩
      case measure => simp [intOf]; omega
set_option maxHeartbeats 1600000 in
theorem findInto_c (s p m side mid : Int) (v : Value) (ps : Tri) (vf : Value) (BF BO BM : Nat) (w : World) (h : Rt w v ps) (hR : InR ps) (hB : Cap s p m vf side mid BF BO BM w) (hp1 : 1 ≤ p) (hp4 : p ≤ 4) (hN : NoP w) :
   Calls Tryd.prog 60 #[.agg (F4 s p m v), .func (.func 72) #[] #[.pointer (some ⟨BF, 0, none⟩), .pointer (some ⟨BO, 0, none⟩), .pointer (some ⟨BM, 0, none⟩)]] w (PaE (outQ p side mid) ps w) := by
  obtain ⟨W2, hW2⟩ : ∃ W2, ((w.alloc (Obj.cells (F4 s p m v) 26)).alloc (Obj.cells (P3 0 0 0) 35)) = W2 := ⟨_, rfl⟩
  have z2 : W2.heap.size = w.heap.size + 2 := by rw [← hW2]; simp
  have k0 : Blk W2 w.heap.size (F4 s p m v) 26 := hW2 ▸ (Blk.new _ _ _).alloc _
  have k1 : Blk W2 (w.heap.size + 1) (P3 0 0 0) 35 := hW2 ▸ Blk.newAt _ _ _ _ (by simp)
  have bl : Below w.heap.size w W2 := hW2 ▸ ((Below.refl _ _).alloc (Nat.le_refl _) _).alloc (by simp) _
  have HB2 : Hid (Below w.heap.size w W2) := bl
  have HR : Hid (Rt W2 v ps) := h.below bl
  have HK : Hid (Blk W2 w.heap.size (F4 s p m v) 26 ∧ Blk W2 (w.heap.size + 1) (P3 0 0 0) 35) := ⟨k0, k1⟩
  have HKB : Hid (Cap s p m vf side mid BF BO BM W2) := hB.below bl
  have HIR : Hid (InR ps) := hR
  have HNP : Hid (NoP w ∧ 0 < w.heap.size) := ⟨hN, hN.lt⟩
  have HRT : Hid (Rt w v ps) := h
  obtain ⟨a, cap, rfl, h1, h2, h3⟩ := h
  unfold maxLen at h2
  have c3 := k0.cell 3
  simp at c3
  clear k0 k1 bl hN hB hR
  go_enter Tryd.func60, Tryd.ntmps60
  go_wp2_with (fail)
  refine (indexInto_c s p m side mid _ ps vf BF BO BM W2 HR.out HIR.out HKB.out hp1 hp4).mono ?_
  rintro e w3 ⟨r, rfl, hr, b3⟩
  have q0 := HK.out.1.below b3 (by omega)
  have q1 := HK.out.2.below b3 (by omega)
  have B3 : Below w.heap.size w w3 := belowCall HB2.out b3 (by omega)
  have hn3 := HNP.out.1.below B3 HNP.out.2
  obtain ⟨n0, n1, n2⟩ := hn3
  have hs3 : w.heap.size + 2 ≤ w3.heap.size := by have := b3.size; omega
  have hz0 : 0 < w.heap.size := HNP.out.2
  have d0 := q1.cell 0
  have d1 := q1.cell 1
  have d2 := q1.cell 2
  have e0 := q1.frozen 0
  have e1 := q1.frozen 1
  have e2 := q1.frozen 2
  clear c3 hW2 b3
  have c3 := q0.cell 3
  simp at c3 d0 d1 d2
  have HQ : Hid (∀ x y z : Int, Blk (((w3.setCell ⟨w.heap.size + 1, 0, none⟩ (.int .i64 x)).setCell ⟨w.heap.size + 1, 1, none⟩ (.int .i64 y)).setCell ⟨w.heap.size + 1, 2, none⟩ (.int .i64 z)) (w.heap.size + 1) (P3 x y z) 35 ∧ Below w.heap.size w (((w3.setCell ⟨w.heap.size + 1, 0, none⟩ (.int .i64 x)).setCell ⟨w.heap.size + 1, 1, none⟩ (.int .i64 y)).setCell ⟨w.heap.size + 1, 2, none⟩ (.int .i64 z))) := fun x y z =>
    ⟨((q1.set 0 (.int .i64 x)).set 1 (.int .i64 y)).set 2 (.int .i64 z), ((B3.setCell (by dsimp only; omega) _).setCell (by dsimp only; omega) _).setCell (by dsimp only; omega) _⟩
  rcases hr with ⟨k, rfl, hk⟩ | ⟨rfl, hno⟩
  · obtain ⟨hkl, hk1, hk2⟩ := hk
    have HF : Hid (Fst (outQ p side mid) ps k) := ⟨hkl, hk1, hk2⟩
    rcases h3 with h3 | ⟨b, off, rfl, h4⟩
    · subst h3; simp at hkl
    have hc := h4 k hkl
    have hcb : b < w.heap.size := block_lt_of_cell hc.1
    obtain ⟨x, ex⟩ : ∃ x, ps[k].1 = x := ⟨_, rfl⟩
    obtain ⟨y, ey⟩ : ∃ y, ps[k].2.1 = y := ⟨_, rfl⟩
    obtain ⟨z, ez⟩ : ∃ z, ps[k].2.2 = z := ⟨_, rfl⟩
    have HX : Hid (ps[k]? = some (x, y, z)) := by show ps[k]? = some (x, y, z); rw [List.getElem?_eq_getElem hkl, ← ex, ← ey, ← ez]
    rw [ex, ey, ez] at hc
    have g0 := (B3.cell (p := ⟨b, off + k * 3, none⟩) hcb).trans hc.1
    have g1 := (B3.cell (p := ⟨b, off + k * 3 + 1, none⟩) hcb).trans hc.2.1
    have g2 := (B3.cell (p := ⟨b, off + k * 3 + 2, none⟩) hcb).trans hc.2.2
    have hk0 : ¬ ((k : Int) < 0) := by omega
    clear h4 hc ex ey ez B3 q0 q1 hk1 hk2 HR HK HKB HNP HRT HB2 n0 n1 n2
    go_wp2
    exact bodyPost_ret (v := .agg (P3 x y z)) (results_cell_row rfl _ _ _ 35 _ (0, 0) _ rfl (HQ.out x y z).1 Tryd.underlying35 rfl size38) rfl ⟨x, y, z, rfl, .inl ⟨k, HF.out, HX.out⟩, (HQ.out x y z).2⟩
  · have HN : Hid (None3 (outQ p side mid) ps) := hno
    clear B3 q0 q1 hno HR HK HKB HNP HRT HB2 h3
    go_wp2
    exact bodyPost_ret (v := .agg (P3 (-1) (-1) (-1))) (results_cell_row rfl _ _ _ 35 _ (0, 0) _ rfl (HQ.out (-1) (-1) (-1)).1 Tryd.underlying35 rfl size38) rfl ⟨-1, -1, -1, rfl, .inr ⟨HN.out, rfl⟩, (HQ.out (-1) (-1) (-1)).2⟩
set_option maxHeartbeats 1600000 in
theorem pathInto_c (s p m side mid : Int) (v : Value) (ps : Tri) (w : World) (h : Rt w v ps) (hR : InR ps) (hp1 : 1 ≤ p) (hp4 : p ≤ 4) (hN : NoP w) :
   Calls Tryd.prog 65 #[.agg (F4 s p m v), .int .i64 side, .int .i64 mid] w (PaE (outQ p side mid) ps w) := by
  obtain ⟨W3, hW3⟩ : ∃ W3, ((((w.alloc (Obj.cells (F4 s p m v) 26)).alloc (Obj.cells #[.int .i64 side] 3)).alloc (Obj.cells #[.int .i64 mid] 3)).alloc (Obj.cells (P3 0 0 0) 35)) = W3 := ⟨_, rfl⟩
  have z3 : W3.heap.size = w.heap.size + 4 := by rw [← hW3]; simp
  have k0 : Blk W3 w.heap.size (F4 s p m v) 26 := hW3 ▸ (((Blk.new _ _ _).alloc _).alloc _).alloc _
  have k1 : Blk W3 (w.heap.size + 1) #[.int .i64 side] 3 := hW3 ▸ ((Blk.newAt _ _ _ _ (by simp)).alloc _).alloc _
  have k2 : Blk W3 (w.heap.size + 1 + 1) #[.int .i64 mid] 3 := hW3 ▸ (Blk.newAt _ _ _ _ (by simp)).alloc _
  have k3 : Blk W3 (w.heap.size + 1 + 1 + 1) (P3 0 0 0) 35 := hW3 ▸ Blk.newAt _ _ _ _ (by simp)
  have bl : Below w.heap.size w W3 := hW3 ▸ ((((Below.refl _ _).alloc (Nat.le_refl _) _).alloc (by simp) _).alloc (by simp; omega) _).alloc (by simp; omega) _
  have HB3 : Hid (Below w.heap.size w W3) := bl
  have HF : Hid (Calls Tryd.prog 60 #[.agg (F4 s p m v), .func (.func 72) #[] #[.pointer (some ⟨w.heap.size, 0, none⟩), .pointer (some ⟨w.heap.size + 1, 0, none⟩), .pointer (some ⟨w.heap.size + 1 + 1, 0, none⟩)]] W3 (PaE (outQ p side mid) ps W3)) := findInto_c s p m side mid v ps v _ _ _ W3 (h.below bl) hR ⟨k0, k1, k2⟩ hp1 hp4 (hN.below bl hN.lt)
  have HK : Hid (Blk W3 (w.heap.size + 1 + 1 + 1) (P3 0 0 0) 35) := k3
  obtain ⟨a, cap, rfl, -⟩ := h
  have c0 := k0.cell 0
  have c1 := k0.cell 1
  have c2 := k0.cell 2
  have c3 := k0.cell 3
  simp at c0 c1 c2 c3
  clear k0 k1 k2 k3 bl hN hR
  go_enter Tryd.func65, Tryd.ntmps65
  go_wp2_with (fail)
  refine HF.out.mono ?_
  rintro e w4 ⟨x, y, z, rfl, hx, b4⟩
  have q2 := HK.out.below b4 (by omega)
  have B4 : Below w.heap.size w w4 := belowCall HB3.out b4 (by omega)
  have d0 := q2.cell 0
  have d1 := q2.cell 1
  have d2 := q2.cell 2
  have e0 := q2.frozen 0
  have e1 := q2.frozen 1
  have e2 := q2.frozen 2
  simp at d0 d1 d2
  have HQ : Hid (Blk (((w4.setCell ⟨w.heap.size + 1 + 1 + 1, 0, none⟩ (.int .i64 x)).setCell ⟨w.heap.size + 1 + 1 + 1, 1, none⟩ (.int .i64 y)).setCell ⟨w.heap.size + 1 + 1 + 1, 2, none⟩ (.int .i64 z)) (w.heap.size + 1 + 1 + 1) (P3 x y z) 35 ∧ Below w.heap.size w (((w4.setCell ⟨w.heap.size + 1 + 1 + 1, 0, none⟩ (.int .i64 x)).setCell ⟨w.heap.size + 1 + 1 + 1, 1, none⟩ (.int .i64 y)).setCell ⟨w.heap.size + 1 + 1 + 1, 2, none⟩ (.int .i64 z))) :=
    ⟨((q2.set 0 (.int .i64 x)).set 1 (.int .i64 y)).set 2 (.int .i64 z), ((B4.setCell (by dsimp only; omega) _).setCell (by dsimp only; omega) _).setCell (by dsimp only; omega) _⟩
  have HX : Hid ((∃ k, Fst (outQ p side mid) ps k ∧ ps[k]? = some (x, y, z)) ∨ (None3 (outQ p side mid) ps ∧ (x, y, z) = (-1, -1, -1))) := hx
  clear hx b4 q2 B4 HF HK HB3 hW3 c0 c1 c2 c3
  go_wp2
  exact bodyPost_ret (v := .agg (P3 x y z)) (results_cell_row rfl _ _ _ 35 _ (0, 0) _ rfl HQ.out.1 Tryd.underlying35 rfl size38) rfl ⟨x, y, z, rfl, HX.out, HQ.out.2⟩
theorem pathInto_v (s p m side mid : Int) (v : Value) (ps : Tri) (w : World) (h : Rt w v ps) (hR : InR ps) (hp1 : 1 ≤ p) (hp4 : p ≤ 4) (hN : NoP w) :
   Calls Tryd.prog 65 #[.agg (F4 s p m v), .int .i64 side, .int .i64 mid] w fun e w' => e = .returned (.agg (P3 (fstP (outQ p side mid) ps).1 (fstP (outQ p side mid) ps).2.1 (fstP (outQ p side mid) ps).2.2)) ∧ Below w.heap.size w w' :=
  (pathInto_c s p m side mid v ps w h hR hp1 hp4 hN).mono fun _ _ h => h.val
set_option maxHeartbeats 1600000 in
theorem OutOf1_c (s p m side mid : Int) (v : Value) (x y z : Int) (BF BO BM : Nat) (w : World) (hC : Cap s p m v side mid BF BO BM w) (hp1 : 1 ≤ p) (hp4 : p ≤ 4) (hx0 : 0 ≤ x) (hx2 : x ≤ 23) (hy0 : 0 ≤ y) (hy2 : y ≤ 23) :
    Calls Tryd.prog 73 #[.agg (P3 x y z), .pointer (some ⟨BF, 0, none⟩), .pointer (some ⟨BO, 0, none⟩), .pointer (some ⟨BM, 0, none⟩)] w fun e w' => e = .returned (.bool (inQ p side mid (x, y, z))) ∧ Below w.heap.size w w' := by
  have HB : Hid (Below w.heap.size w (w.alloc (Obj.cells (P3 x y z) 35))) := (Below.refl _ _).alloc (Nat.le_refl _) _
  have l1 := hC.f.lt
  have l2 := hC.o.lt
  have l3 := hC.m.lt
  have c1 := hC.f.cell 1
  have c2 := hC.o.cell 0
  have c3 := hC.m.cell 0
  simp at c1 c2 c3
  have hp0 : p ≠ 0 := by omega
  have HQ : Hid (inQ p side mid (x, y, z) = ((x / p == side) && (z == mid))) := rfl
  obtain ⟨q1, e1⟩ : ∃ q, (x / p == side) = q := ⟨_, rfl⟩
  obtain ⟨q2, e2⟩ : ∃ q, (z == mid) = q := ⟨_, rfl⟩
  rw [e1, e2] at HQ
  clear hC
  go_enter Tryd.func73, Tryd.ntmps73
  cases q1 with
  | false =>
    go_wp2
    go_quiet (fail)
    go_wp2
    go_ret
    exact ⟨by rw [HQ.out]; rfl, below_drewN HB.out _⟩
  | true =>
    cases q2 with
    | false =>
      go_wp2
      go_quiet (fail)
      go_wp2
      go_ret
      exact ⟨by rw [HQ.out]; rfl, below_drewN HB.out _⟩
    | true =>
      go_wp2
      go_quiet (fail)
      go_wp2
      go_ret
      exact ⟨by rw [HQ.out]; rfl, below_drewN HB.out _⟩
set_option maxHeartbeats 1600000 in
theorem indexOutOf_c (s p m side mid : Int) (v : Value) (ps : Tri) (vf : Value) (BF BO BM : Nat) (w : World) (h : Rt w v ps) (hR : InR ps) (hC : Cap s p m vf side mid BF BO BM w) (hp1 : 1 ≤ p) (hp4 : p ≤ 4) :
   Calls Tryd.prog 67 #[v, .func (.func 73) #[] #[.pointer (some ⟨BF, 0, none⟩), .pointer (some ⟨BO, 0, none⟩), .pointer (some ⟨BM, 0, none⟩)]] w (IxE (inQ p side mid) ps w) := by
  obtain ⟨a, cap, rfl, h1, h2, h3⟩ := h
  unfold maxLen at h2
  have HK : Hid (Cap s p m vf side mid BF BO BM w) := hC
  have HR : Hid (InR ps) := hR
  clear hC hR
  go_enter Tryd.func67, Tryd.ntmps67
  go_wp2
  go_loopw [8] (fun i wr => ∃ j : Nat, j ≤ ps.length ∧ i = .int .i64 j ∧ Hid (∀ t (ht : t < j) (h : t < ps.length), inQ p side mid ps[t] = false) ∧ Hid (Below w.heap.size w wr)) (fun i _ => ps.length - (intOf i).toNat)
  case atStart => exact ⟨0, Nat.zero_le _, rfl, fun t ht => by omega, Below.refl _ _⟩
  case round =>
    obtain ⟨j, hj, rfl, hA, hbr⟩ := hrel
    by_cases hlt : j < ps.length
    case neg =>
      obtain rfl : j = ps.length := by omega
      have HN : Hid (None3 (inQ p side mid) ps) := fun i h => hA.out i h h
      clear h3
      go_wp2
      go_ret
      exact IxE.none HN.out hbr.out
    case pos =>
    rcases h3 with h3 | ⟨b, off, rfl, h4⟩
    · subst h3; simp at hlt
    have hc := h4 j hlt
    have hcb : b < w.heap.size := block_lt_of_cell hc.1
    obtain ⟨x, ex⟩ : ∃ x, ps[j].1 = x := ⟨_, rfl⟩
    obtain ⟨y, ey⟩ : ∃ y, ps[j].2.1 = y := ⟨_, rfl⟩
    obtain ⟨z, ez⟩ : ∃ z, ps[j].2.2 = z := ⟨_, rfl⟩
    have HX : Hid (ps[j] = (x, y, z)) := by rw [← ex, ← ey, ← ez]; rfl
    have hr := HR.out ps[j] (List.getElem_mem hlt)
    rw [HX.out] at hr
    obtain ⟨⟨x1, x2⟩, ⟨y1, y2⟩⟩ := hr
    dsimp only at x1 x2 y1 y2
    rw [ex, ey, ez] at hc
    have c0 := (hbr.out.cell (p := ⟨b, off + j * 3, none⟩) hcb).trans hc.1
    have c1 := (hbr.out.cell (p := ⟨b, off + j * 3 + 1, none⟩) hcb).trans hc.2.1
    have c2 := (hbr.out.cell (p := ⟨b, off + j * 3 + 2, none⟩) hcb).trans hc.2.2
    clear h4 hc ex ey ez
    go_wp2_with (fail)
    refine (OutOf1_c s p m side mid vf x y z BF BO BM wr (HK.out.below hbr.out) hp1 hp4 x1 x2 y1 y2).mono ?_
    rintro e w2 ⟨rfl, b2⟩
    have HB2 : Hid (Below w.heap.size w w2) := belowCall hbr.out b2 hbr.out.size
    clear b2
    obtain ⟨t, ht⟩ : ∃ t, inQ p side mid (x, y, z) = t := ⟨_, rfl⟩
    rw [ht]
    have HT : Hid (inQ p side mid (x, y, z) = t) := ht
    clear ht
    cases t with
    | true =>
      have HF : Hid (Fst (inQ p side mid) ps j) := ⟨hlt, by rw [HX.out]; exact HT.out, fun i hi => hA.out i hi (by omega)⟩
      go_wp2
      go_ret
      exact IxE.found HF.out HB2.out
    | false =>
      have HF : Hid (∀ t (ht : t < j + 1) (h : t < ps.length), inQ p side mid ps[t] = false) := fun t ht h => by
        by_cases htj : t < j
        · exact hA.out t htj h
        · obtain rfl : t = j := by omega
          rw [HX.out]; exact HT.out
      go_wp2
      go_roundw
      case rel => exact ⟨j + 1, by omega, by go_num, HF.out, HB2.out⟩
      case measure => simp [intOf]; omega
set_option maxHeartbeats 1600000 in
theorem findOutOf_c (s p m side mid : Int) (v : Value) (ps : Tri) (vf : Value) (BF BO BM : Nat) (w : World) (h : Rt w v ps) (hR : InR ps) (hB : Cap s p m vf side mid BF BO BM w) (hp1 : 1 ≤ p) (hp4 : p ≤ 4) (hN : NoP w) :
   Calls Tryd.prog 60 #[.agg (F4 s p m v), .func (.func 73) #[] #[.pointer (some ⟨BF, 0, none⟩), .pointer (some ⟨BO, 0, none⟩), .pointer (some ⟨BM, 0, none⟩)]] w (PaE (inQ p side mid) ps w) := by
  obtain ⟨W2, hW2⟩ : ∃ W2, ((w.alloc (Obj.cells (F4 s p m v) 26)).alloc (Obj.cells (P3 0 0 0) 35)) = W2 := ⟨_, rfl⟩
  have z2 : W2.heap.size = w.heap.size + 2 := by rw [← hW2]; simp
  have k0 : Blk W2 w.heap.size (F4 s p m v) 26 := hW2 ▸ (Blk.new _ _ _).alloc _
  have k1 : Blk W2 (w.heap.size + 1) (P3 0 0 0) 35 := hW2 ▸ Blk.newAt _ _ _ _ (by simp)
  have bl : Below w.heap.size w W2 := hW2 ▸ ((Below.refl _ _).alloc (Nat.le_refl _) _).alloc (by simp) _
  have HB2 : Hid (Below w.heap.size w W2) := bl
  have HR : Hid (Rt W2 v ps) := h.below bl
  have HK : Hid (Blk W2 w.heap.size (F4 s p m v) 26 ∧ Blk W2 (w.heap.size + 1) (P3 0 0 0) 35) := ⟨k0, k1⟩
  have HKB : Hid (Cap s p m vf side mid BF BO BM W2) := hB.below bl
  have HIR : Hid (InR ps) := hR
  have HNP : Hid (NoP w ∧ 0 < w.heap.size) := ⟨hN, hN.lt⟩
  have HRT : Hid (Rt w v ps) := h
  obtain ⟨a, cap, rfl, h1, h2, h3⟩ := h
  unfold maxLen at h2
  have c3 := k0.cell 3
  simp at c3
  clear k0 k1 bl hN hB hR
  go_enter Tryd.func60, Tryd.ntmps60
  go_wp2_with (fail)
  refine (indexOutOf_c s p m side mid _ ps vf BF BO BM W2 HR.out HIR.out HKB.out hp1 hp4).mono ?_
  rintro e w3 ⟨r, rfl, hr, b3⟩
  have q0 := HK.out.1.below b3 (by omega)
  have q1 := HK.out.2.below b3 (by omega)
  have B3 : Below w.heap.size w w3 := belowCall HB2.out b3 (by omega)
  have hn3 := HNP.out.1.below B3 HNP.out.2
  obtain ⟨n0, n1, n2⟩ := hn3
  have hs3 : w.heap.size + 2 ≤ w3.heap.size := by have := b3.size; omega
  have hz0 : 0 < w.heap.size := HNP.out.2
  have d0 := q1.cell 0
  have d1 := q1.cell 1
  have d2 := q1.cell 2
  have e0 := q1.frozen 0
  have e1 := q1.frozen 1
  have e2 := q1.frozen 2
  clear c3 hW2 b3
  have c3 := q0.cell 3
  simp at c3 d0 d1 d2
  have HQ : Hid (∀ x y z : Int, Blk (((w3.setCell ⟨w.heap.size + 1, 0, none⟩ (.int .i64 x)).setCell ⟨w.heap.size + 1, 1, none⟩ (.int .i64 y)).setCell ⟨w.heap.size + 1, 2, none⟩ (.int .i64 z)) (w.heap.size + 1) (P3 x y z) 35 ∧ Below w.heap.size w (((w3.setCell ⟨w.heap.size + 1, 0, none⟩ (.int .i64 x)).setCell ⟨w.heap.size + 1, 1, none⟩ (.int .i64 y)).setCell ⟨w.heap.size + 1, 2, none⟩ (.int .i64 z))) := fun x y z =>
    ⟨((q1.set 0 (.int .i64 x)).set 1 (.int .i64 y)).set 2 (.int .i64 z), ((B3.setCell (by dsimp only; omega) _).setCell (by dsimp only; omega) _).setCell (by dsimp only; omega) _⟩
  rcases hr with ⟨k, rfl, hk⟩ | ⟨rfl, hno⟩
  · obtain ⟨hkl, hk1, hk2⟩ := hk
    have HF : Hid (Fst (inQ p side mid) ps k) := ⟨hkl, hk1, hk2⟩
    rcases h3 with h3 | ⟨b, off, rfl, h4⟩
    · subst h3; simp at hkl
    have hc := h4 k hkl
    have hcb : b < w.heap.size := block_lt_of_cell hc.1
    obtain ⟨x, ex⟩ : ∃ x, ps[k].1 = x := ⟨_, rfl⟩
    obtain ⟨y, ey⟩ : ∃ y, ps[k].2.1 = y := ⟨_, rfl⟩
    obtain ⟨z, ez⟩ : ∃ z, ps[k].2.2 = z := ⟨_, rfl⟩
    have HX : Hid (ps[k]? = some (x, y, z)) := by show ps[k]? = some (x, y, z); rw [List.getElem?_eq_getElem hkl, ← ex, ← ey, ← ez]
    rw [ex, ey, ez] at hc
    have g0 := (B3.cell (p := ⟨b, off + k * 3, none⟩) hcb).trans hc.1
    have g1 := (B3.cell (p := ⟨b, off + k * 3 + 1, none⟩) hcb).trans hc.2.1
    have g2 := (B3.cell (p := ⟨b, off + k * 3 + 2, none⟩) hcb).trans hc.2.2
    have hk0 : ¬ ((k : Int) < 0) := by omega
    clear h4 hc ex ey ez B3 q0 q1 hk1 hk2 HR HK HKB HNP HRT HB2 n0 n1 n2
    go_wp2
    exact bodyPost_ret (v := .agg (P3 x y z)) (results_cell_row rfl _ _ _ 35 _ (0, 0) _ rfl (HQ.out x y z).1 Tryd.underlying35 rfl size38) rfl ⟨x, y, z, rfl, .inl ⟨k, HF.out, HX.out⟩, (HQ.out x y z).2⟩
  · have HN : Hid (None3 (inQ p side mid) ps) := hno
    clear B3 q0 q1 hno HR HK HKB HNP HRT HB2 h3
    go_wp2
    exact bodyPost_ret (v := .agg (P3 (-1) (-1) (-1))) (results_cell_row rfl _ _ _ 35 _ (0, 0) _ rfl (HQ.out (-1) (-1) (-1)).1 Tryd.underlying35 rfl size38) rfl ⟨-1, -1, -1, rfl, .inr ⟨HN.out, rfl⟩, (HQ.out (-1) (-1) (-1)).2⟩
set_option maxHeartbeats 1600000 in
theorem pathOutOf_c (s p m side mid : Int) (v : Value) (ps : Tri) (w : World) (h : Rt w v ps) (hR : InR ps) (hp1 : 1 ≤ p) (hp4 : p ≤ 4) (hN : NoP w) :
   Calls Tryd.prog 66 #[.agg (F4 s p m v), .int .i64 side, .int .i64 mid] w (PaE (inQ p side mid) ps w) := by
  obtain ⟨W3, hW3⟩ : ∃ W3, ((((w.alloc (Obj.cells (F4 s p m v) 26)).alloc (Obj.cells #[.int .i64 side] 3)).alloc (Obj.cells #[.int .i64 mid] 3)).alloc (Obj.cells (P3 0 0 0) 35)) = W3 := ⟨_, rfl⟩
  have z3 : W3.heap.size = w.heap.size + 4 := by rw [← hW3]; simp
  have k0 : Blk W3 w.heap.size (F4 s p m v) 26 := hW3 ▸ (((Blk.new _ _ _).alloc _).alloc _).alloc _
  have k1 : Blk W3 (w.heap.size + 1) #[.int .i64 side] 3 := hW3 ▸ ((Blk.newAt _ _ _ _ (by simp)).alloc _).alloc _
  have k2 : Blk W3 (w.heap.size + 1 + 1) #[.int .i64 mid] 3 := hW3 ▸ (Blk.newAt _ _ _ _ (by simp)).alloc _
  have k3 : Blk W3 (w.heap.size + 1 + 1 + 1) (P3 0 0 0) 35 := hW3 ▸ Blk.newAt _ _ _ _ (by simp)
  have bl : Below w.heap.size w W3 := hW3 ▸ ((((Below.refl _ _).alloc (Nat.le_refl _) _).alloc (by simp) _).alloc (by simp; omega) _).alloc (by simp; omega) _
  have HB3 : Hid (Below w.heap.size w W3) := bl
  have HF : Hid (Calls Tryd.prog 60 #[.agg (F4 s p m v), .func (.func 73) #[] #[.pointer (some ⟨w.heap.size, 0, none⟩), .pointer (some ⟨w.heap.size + 1, 0, none⟩), .pointer (some ⟨w.heap.size + 1 + 1, 0, none⟩)]] W3 (PaE (inQ p side mid) ps W3)) := findOutOf_c s p m side mid v ps v _ _ _ W3 (h.below bl) hR ⟨k0, k1, k2⟩ hp1 hp4 (hN.below bl hN.lt)
  have HK : Hid (Blk W3 (w.heap.size + 1 + 1 + 1) (P3 0 0 0) 35) := k3
  obtain ⟨a, cap, rfl, -⟩ := h
  have c0 := k0.cell 0
  have c1 := k0.cell 1
  have c2 := k0.cell 2
  have c3 := k0.cell 3
  simp at c0 c1 c2 c3
  clear k0 k1 k2 k3 bl hN hR
  go_enter Tryd.func66, Tryd.ntmps66
  go_wp2_with (fail)
  refine HF.out.mono ?_
  rintro e w4 ⟨x, y, z, rfl, hx, b4⟩
  have q2 := HK.out.below b4 (by omega)
  have B4 : Below w.heap.size w w4 := belowCall HB3.out b4 (by omega)
  have d0 := q2.cell 0
  have d1 := q2.cell 1
  have d2 := q2.cell 2
  have e0 := q2.frozen 0
  have e1 := q2.frozen 1
  have e2 := q2.frozen 2
  simp at d0 d1 d2
  have HQ : Hid (Blk (((w4.setCell ⟨w.heap.size + 1 + 1 + 1, 0, none⟩ (.int .i64 x)).setCell ⟨w.heap.size + 1 + 1 + 1, 1, none⟩ (.int .i64 y)).setCell ⟨w.heap.size + 1 + 1 + 1, 2, none⟩ (.int .i64 z)) (w.heap.size + 1 + 1 + 1) (P3 x y z) 35 ∧ Below w.heap.size w (((w4.setCell ⟨w.heap.size + 1 + 1 + 1, 0, none⟩ (.int .i64 x)).setCell ⟨w.heap.size + 1 + 1 + 1, 1, none⟩ (.int .i64 y)).setCell ⟨w.heap.size + 1 + 1 + 1, 2, none⟩ (.int .i64 z))) :=
    ⟨((q2.set 0 (.int .i64 x)).set 1 (.int .i64 y)).set 2 (.int .i64 z), ((B4.setCell (by dsimp only; omega) _).setCell (by dsimp only; omega) _).setCell (by dsimp only; omega) _⟩
  have HX : Hid ((∃ k, Fst (inQ p side mid) ps k ∧ ps[k]? = some (x, y, z)) ∨ (None3 (inQ p side mid) ps ∧ (x, y, z) = (-1, -1, -1))) := hx
  clear hx b4 q2 B4 HF HK HB3 hW3 c0 c1 c2 c3
  go_wp2
  exact bodyPost_ret (v := .agg (P3 x y z)) (results_cell_row rfl _ _ _ 35 _ (0, 0) _ rfl HQ.out.1 Tryd.underlying35 rfl size38) rfl ⟨x, y, z, rfl, HX.out, HQ.out.2⟩
theorem pathOutOf_v (s p m side mid : Int) (v : Value) (ps : Tri) (w : World) (h : Rt w v ps) (hR : InR ps) (hp1 : 1 ≤ p) (hp4 : p ≤ 4) (hN : NoP w) :
   Calls Tryd.prog 66 #[.agg (F4 s p m v), .int .i64 side, .int .i64 mid] w fun e w' => e = .returned (.agg (P3 (fstP (inQ p side mid) ps).1 (fstP (inQ p side mid) ps).2.1 (fstP (inQ p side mid) ps).2.2)) ∧ Below w.heap.size w w' :=
  (pathOutOf_c s p m side mid v ps w h hR hp1 hp4 hN).mono fun _ _ h => h.val
end Go.Proofs.YtikhfeafbckjlaaDoor
