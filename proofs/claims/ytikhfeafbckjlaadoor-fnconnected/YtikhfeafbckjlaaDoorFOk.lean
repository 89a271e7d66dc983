/- The contract of the model's FabricOk; no condition. -/
import Derived.Test.YtikhfeafbckjlaaDoorFDef
namespace Go.Proofs.YtikhfeafbckjlaaDoor
open Go.RowKit Go.ChangeShapes Go.WideShapes Go.ChangeAt
set_option linter.unusedVariables false
set_option linter.unusedSimpArgs false
set_option maxRecDepth 8000
set_option maxHeartbeats 6400000 in
theorem ok_c (s p m : Int) (v : Value) (ps : Tri) (w : World) (h : Rt w v ps) :
   Calls Tryd.prog 13 #[.agg (F4 s p m v)] w fun e w' => ∃ r, e = .returned (.bool r) ∧ (r = true ↔ FOk s p m ps) ∧ Below w.heap.size w w' := by
  have HB : Hid (Below w.heap.size w (w.alloc (Obj.cells (F4 s p m v) 26))) := (Below.refl _ _).alloc (Nat.le_refl _) _
  have HK : Hid (Blk (w.alloc (Obj.cells (F4 s p m v) 26)) w.heap.size (F4 s p m v) 26) := Blk.new _ _ _
  obtain ⟨a, cap, rfl, h1, h2, h3⟩ := h
  unfold maxLen at h2
  go_enter Tryd.func13, Tryd.ntmps13
  by_cases hs : 1 ≤ s ∧ s ≤ 6
  case neg =>
    have hd : decide (1 ≤ s ∧ s ≤ 6) = false := by simp only [decide_eq_false_iff_not]; exact hs
    have HN : Hid (¬ (1 ≤ s ∧ s ≤ 6)) := hs
    clear hs h3
    go_wp2_with (go_at_call 49; refine (in_c _ _ _ _).mono ?_; rintro e w2 ⟨rfl, rfl⟩; rw [hd])
    go_ret
    exact ⟨_, rfl, ⟨fun h => (by cases h), fun h => absurd h.1 HN.out⟩, HB.out⟩
  have hd1 : decide (1 ≤ s ∧ s ≤ 6) = true := by simp only [decide_eq_true_eq]; exact hs
  by_cases hp : 1 ≤ p ∧ p ≤ 4
  case neg =>
    have hd : decide (1 ≤ p ∧ p ≤ 4) = false := by simp only [decide_eq_false_iff_not]; exact hp
    have HN : Hid (¬ (1 ≤ p ∧ p ≤ 4)) := hp
    clear hs hp h3
    go_wp2_with (go_at_call 49; refine (in_c _ _ _ _).mono ?_; rintro e w2 ⟨rfl, rfl⟩; first | rw [hd1] | rw [hd])
    go_ret
    exact ⟨_, rfl, ⟨fun h => (by cases h), fun h => absurd h.2.1 HN.out⟩, HB.out⟩
  have hd2 : decide (1 ≤ p ∧ p ≤ 4) = true := by simp only [decide_eq_true_eq]; exact hp
  by_cases hm : 1 ≤ m ∧ m ≤ 12
  case neg =>
    have hd : decide (1 ≤ m ∧ m ≤ 12) = false := by simp only [decide_eq_false_iff_not]; exact hm
    have HN : Hid (¬ (1 ≤ m ∧ m ≤ 12)) := hm
    clear hs hp hm h3
    go_wp2_with (go_at_call 49; refine (in_c _ _ _ _).mono ?_; rintro e w2 ⟨rfl, rfl⟩; first | rw [hd1] | rw [hd2] | rw [hd])
    go_ret
    exact ⟨_, rfl, ⟨fun h => (by cases h), fun h => absurd h.2.2.1 HN.out⟩, HB.out⟩
  have hd3 : decide (1 ≤ m ∧ m ≤ 12) = true := by simp only [decide_eq_true_eq]; exact hm
  obtain ⟨n, hn⟩ : ∃ n, s * p = n := ⟨_, rfl⟩
  have hn24 := sides hs hp
  rw [hn] at hn24
  obtain ⟨hn1, hn2⟩ := hn24
  obtain ⟨hs1, hs2⟩ := hs
  obtain ⟨hp1, hp2⟩ := hp
  obtain ⟨hm1, hm2⟩ := hm
  have HFO : Hid (FTo s p m ps ps.length → FOk s p m ps) := fun h => ⟨⟨hs1, hs2⟩, ⟨hp1, hp2⟩, ⟨hm1, hm2⟩, h⟩
  go_wp2_with (go_at_call 49; refine (in_c _ _ _ _).mono ?_; rintro e w2 ⟨rfl, rfl⟩; first | rw [hd1] | rw [hd2] | rw [hd3])
  clear hd1 hd2 hd3
  obtain ⟨W0, hW0⟩ : ∃ W0, w.alloc (Obj.cells (F4 s p m (.slice a ps.length cap)) 26) = W0 := ⟨_, rfl⟩
  have z0 : W0.heap.size = w.heap.size + 1 := by rw [← hW0]; simp
  rw [hW0] at HB HK ⊢
  clear hW0
  have HZ0 : Hid (W0.heap.size = w.heap.size + 1) := z0
  clear z0
  go_loopw [3] (fun i wr => ∃ j : Nat, j ≤ ps.length ∧ i = .int .i64 j ∧ Hid (FTo s p m ps j) ∧ Hid (Below (w.heap.size + 1) W0 wr)) (fun i _ => ps.length - (intOf i).toNat)
  case atStart => exact ⟨0, Nat.zero_le _, rfl, fun i h hi => by omega, by rw [← HZ0.out]; exact Below.refl _ _⟩
  case round =>
    obtain ⟨j, hj, rfl, hI, hbr⟩ := hrel
    obtain ⟨wo, rfl⟩ : ∃ wo, wo = wr := ⟨_, rfl⟩
    have kb := HK.out.below hbr.out (by omega)
    have k0 := kb.cell 0
    have k1 := kb.cell 1
    have k2 := kb.cell 2
    have k3 := kb.cell 3
    simp at k0 k1 k2 k3
    have HKB : Hid (Blk wo w.heap.size (F4 s p m (.slice a ps.length cap)) 26) := kb
    have hwr : w.heap.size < wo.heap.size := kb.lt
    have HBW : Hid (Below w.heap.size w wo) := HB.out.trans (hbr.out.mono (by omega))
    clear kb
    by_cases hlt : j < ps.length
    case neg =>
      obtain rfl : j = ps.length := by omega
      clear h3
      go_wp2
      go_ret
      exact ⟨_, rfl, ⟨fun _ => HFO.out hI.out, fun _ => rfl⟩, HBW.out⟩
    case pos =>
    rcases h3 with h3 | ⟨b, off, rfl, h4⟩
    · subst h3; simp at hlt
    have HC : Hid (∀ (W : World), Below wo.heap.size wo W → ∀ i (h : i < ps.length), W.cell? ⟨b, off + i * 3, none⟩ = some (.int .i64 ps[i].1) ∧ W.cell? ⟨b, off + i * 3 + 1, none⟩ = some (.int .i64 ps[i].2.1) ∧ W.cell? ⟨b, off + i * 3 + 2, none⟩ = some (.int .i64 ps[i].2.2)) := fun W hW i hi => by
      have hc := h4 i hi
      have hcb : b < w.heap.size := block_lt_of_cell hc.1
      have hBW : Below w.heap.size w W := HBW.out.trans (hW.mono (by omega))
      rw [hBW.cell hcb, hBW.cell hcb, hBW.cell hcb]; exact hc
    obtain ⟨x, ex⟩ : ∃ x, ps[j].1 = x := ⟨_, rfl⟩
    obtain ⟨y, ey⟩ : ∃ y, ps[j].2.1 = y := ⟨_, rfl⟩
    obtain ⟨z, ez⟩ : ∃ z, ps[j].2.2 = z := ⟨_, rfl⟩
    have hc := HC.out wo (Below.refl _ _) j hlt
    rw [ex, ey, ez] at hc
    obtain ⟨hc0, hc1, hc2⟩ := hc
    have HBP : Hid (Below wo.heap.size wo (wo.alloc (Obj.cells (P3 x y z) 35))) := (Below.refl _ _).alloc (Nat.le_refl _) _
    have HKP : Hid (Blk (wo.alloc (Obj.cells (P3 x y z) 35)) wo.heap.size (P3 x y z) 35) := Blk.new _ _ _
    have HZP : Hid ((wo.alloc (Obj.cells (P3 x y z) 35)).heap.size = wo.heap.size + 1) := by simp [Hid]
    have HXYZ : Hid (ps[j] = (x, y, z)) := by rw [← ex, ← ey, ← ez]; rfl
    have HNEG : Hid (¬ (PIn n m (x, y, z) ∧ ∀ k (hk : k < j), ¬ Clash p (x, y, z) ps[k]) → ¬ FOk s p m ps) := fun h hf => h (by
      have := hf.2.2.2 j hlt hlt
      rw [HXYZ.out, hn] at this
      exact this)
    clear h4 ex ey ez
    by_cases e1 : FEnd n x
    case neg =>
      have hd : decide (FEnd n x) = false := by simp only [decide_eq_false_iff_not]; exact e1
      have HN : Hid (¬ FOk s p m ps) := HNEG.out (fun h => e1 h.1.1)
      clear e1
      go_wp2_with (fail)
      refine (end_c s p m n _ x _ hn hn1 hn2).mono ?_
      rintro e w2 ⟨rfl, b2⟩
      rw [hd]
      have HB2 : Hid (Below w.heap.size w w2) := belowCall (HBW.out.trans (HBP.out.mono (by omega))) b2 (HBW.out.trans (HBP.out.mono (by omega))).size
      clear b2
      go_wp2
      go_ret
      exact ⟨_, rfl, ⟨fun h => (by cases h), fun h => absurd h HN.out⟩, HB2.out⟩
    case pos =>
    have hd1 : decide (FEnd n x) = true := by simp only [decide_eq_true_eq]; exact e1
    go_wp2_with (fail)
    refine (end_c s p m n _ x _ hn hn1 hn2).mono ?_
    rintro e w2 ⟨rfl, b2⟩
    rw [hd1]
    have B2 : Below (wo.heap.size + 1) (wo.alloc (Obj.cells (P3 x y z) 35)) w2 := by rw [← HZP.out]; exact b2
    have HB2 : Hid (Below (wo.heap.size + 1) (wo.alloc (Obj.cells (P3 x y z) 35)) w2) := B2
    have kb := (HKB.out.alloc (Obj.cells (P3 x y z) 35)).below B2 (by omega)
    have qb := HKP.out.below B2 (by omega)
    clear k0 k1 k2 k3
    have k0 := kb.cell 0
    have k1 := kb.cell 1
    have k2 := kb.cell 2
    have k3 := kb.cell 3
    have q0 := qb.cell 0
    have q1 := qb.cell 1
    have q2 := qb.cell 2
    simp at k0 k1 k2 k3 q0 q1 q2
    have hq2 : wo.heap.size < w2.heap.size := qb.lt
    have HBW2 : Hid (Below w.heap.size w w2) := (HBW.out.trans (HBP.out.mono (by omega))).trans (B2.mono (by omega))
    clear b2 B2 kb qb hd1 hc0 hc1 hc2
    by_cases e2 : FEnd n y
    case neg =>
      have hd : decide (FEnd n y) = false := by simp only [decide_eq_false_iff_not]; exact e2
      have HN : Hid (¬ FOk s p m ps) := HNEG.out (fun h => e2 h.1.2.1)
      clear e2 e1
      go_wp2_with (fail)
      refine (end_c s p m n _ y _ hn hn1 hn2).mono ?_
      rintro e w3 ⟨rfl, b3⟩
      rw [hd]
      have HB3 : Hid (Below w.heap.size w w3) := belowCall HBW2.out b3 HBW2.out.size
      clear b3
      go_wp2
      go_ret
      exact ⟨_, rfl, ⟨fun h => (by cases h), fun h => absurd h HN.out⟩, HB3.out⟩
    case pos =>
    have hd2 : decide (FEnd n y) = true := by simp only [decide_eq_true_eq]; exact e2
    go_wp2_with (fail)
    refine (end_c s p m n _ y _ hn hn1 hn2).mono ?_
    rintro e w3 ⟨rfl, b3⟩
    rw [hd2]
    have B3 : Below (wo.heap.size + 1) (wo.alloc (Obj.cells (P3 x y z) 35)) w3 := belowCall HB2.out b3 (by omega)
    have HB3 : Hid (Below (wo.heap.size + 1) (wo.alloc (Obj.cells (P3 x y z) 35)) w3) := B3
    have kb := (HKB.out.alloc (Obj.cells (P3 x y z) 35)).below B3 (by omega)
    have qb := HKP.out.below B3 (by omega)
    clear k0 k1 k2 k3 q0 q1 q2 hq2
    have k0 := kb.cell 0
    have k1 := kb.cell 1
    have k2 := kb.cell 2
    have k3 := kb.cell 3
    have q0 := qb.cell 0
    have q1 := qb.cell 1
    have q2 := qb.cell 2
    simp at k0 k1 k2 k3 q0 q1 q2
    have hq2 : wo.heap.size < w3.heap.size := qb.lt
    have HBW3 : Hid (Below w.heap.size w w3) := (HBW.out.trans (HBP.out.mono (by omega))).trans (B3.mono (by omega))
    clear b3 B3 kb qb hd2 HB2 HBW2
    by_cases e3 : 0 ≤ z ∧ z ≤ m - 1
    case neg =>
      have hd : decide (0 ≤ z ∧ z ≤ m - 1) = false := by simp only [decide_eq_false_iff_not]; exact e3
      have HN : Hid (¬ FOk s p m ps) := HNEG.out (fun h => e3 h.1.2.2)
      clear e3 e2 e1
      go_wp2_with (go_at_call 49; refine (in_c _ _ _ _).mono ?_; rintro e w4 ⟨rfl, rfl⟩; rw [hd])
      go_ret
      exact ⟨_, rfl, ⟨fun h => (by cases h), fun h => absurd h HN.out⟩, HBW3.out⟩
    case pos =>
    have hd3 : decide (0 ≤ z ∧ z ≤ m - 1) = true := by simp only [decide_eq_true_eq]; exact e3
    have HPI : Hid (PIn n m (x, y, z)) := ⟨e1, e2, e3.1, e3.2⟩
    go_wp2_with (go_at_call 49; refine (in_c _ _ _ _).mono ?_; rintro e w4 ⟨rfl, rfl⟩; rw [hd3])
    clear hd3 e3 k0 k1 k2 k3 q0 q1 q2 hq2
    obtain ⟨ex1, ex2⟩ := e1
    obtain ⟨ey1, ey2⟩ := e2
    have hx2 : x ≤ 23 := by omega
    have hy2 : y ≤ 23 := by omega
    go_loopw [5] (fun i wr => ∃ k : Nat, k ≤ j ∧ i = .int .i64 k ∧ Hid (∀ t (ht : t < k) (h : t < ps.length), ¬ Clash p (x, y, z) ps[t]) ∧ Hid (Below (wo.heap.size + 1) (wo.alloc (Obj.cells (P3 x y z) 35)) wr)) (fun i _ => j - (intOf i).toNat)
    case atStart => exact ⟨0, Nat.zero_le _, rfl, fun t ht => by omega, HB3.out⟩
    case round =>
      obtain ⟨k, hk, rfl, hA, hb2⟩ := hrel
      have kb := (HKB.out.alloc (Obj.cells (P3 x y z) 35)).below hb2.out (by omega)
      have qb := HKP.out.below hb2.out (by omega)
      have k1 := kb.cell 1
      have k3 := kb.cell 3
      have q0 := qb.cell 0
      have q1 := qb.cell 1
      have q2 := qb.cell 2
      simp at k1 k3 q0 q1 q2
      have hq2 : wo.heap.size < wr.heap.size := qb.lt
      have hk2 : w.heap.size < wr.heap.size := kb.lt
      have HBW2 : Hid (Below w.heap.size w wr) := (HBW.out.trans (HBP.out.mono (by omega))).trans (hb2.out.mono (by omega))
      clear kb qb
      by_cases hkt : k < j
      case neg =>
        obtain rfl : k = j := by omega
        have HA : Hid (FTo s p m ps (k + 1)) := fun i h hi => by
          by_cases hik : i < k
          · exact hI.out i h hik
          · obtain rfl : i = k := by omega
            rw [hn, HXYZ.out]
            exact ⟨HPI.out, fun t ht => hA.out t ht (by omega)⟩
        have HBR : Hid (Below (w.heap.size + 1) W0 wr) := (hbr.out.trans (HBP.out.mono (by omega))).trans (hb2.out.mono (by omega))
        go_wp2
        go_roundw
        case rel => exact ⟨k + 1, by omega, by go_num, HA.out, HBR.out⟩
        case measure => simp [intOf]; omega
      case pos =>
      have hkl : k < ps.length := by omega
      obtain ⟨x', ex⟩ : ∃ x, ps[k].1 = x := ⟨_, rfl⟩
      obtain ⟨y', ey⟩ : ∃ y, ps[k].2.1 = y := ⟨_, rfl⟩
      obtain ⟨z', ez⟩ : ∃ z, ps[k].2.2 = z := ⟨_, rfl⟩
      have HX' : Hid (ps[k] = (x', y', z')) := by rw [← ex, ← ey, ← ez]; rfl
      have hin := (hI.out k hkl hkt).1
      rw [hn, HX'.out] at hin
      obtain ⟨⟨f1, f2⟩, ⟨f3, f4⟩, -⟩ := hin
      dsimp only at f1 f2 f3 f4
      have f5 : x' ≤ 23 := by omega
      have f6 : y' ≤ 23 := by omega
      have hc := HC.out wr (HBP.out.trans (hb2.out.mono (by omega))) k hkl
      rw [ex, ey, ez] at hc
      obtain ⟨hc0, hc1, hc2⟩ := hc
      clear ex ey ez
      have hcl := clash_b' p x y z x' y' z'
      obtain ⟨b1, g1⟩ : ∃ b, (x' == x) = b := ⟨_, rfl⟩
      obtain ⟨b2, g2⟩ : ∃ b, (y' == y) = b := ⟨_, rfl⟩
      obtain ⟨b3, g3⟩ : ∃ b, (z' == z) = b := ⟨_, rfl⟩
      obtain ⟨b4, g4⟩ : ∃ b, (x' / p == x / p) = b := ⟨_, rfl⟩
      obtain ⟨b5, g5⟩ : ∃ b, (y' / p == y / p) = b := ⟨_, rfl⟩
      rw [g1, g2, g3, g4, g5] at hcl
      have hp0 : p ≠ 0 := by omega
      have HCL : Hid (decide (Clash p (x, y, z) (x', y', z')) = (b1 || b2 || (b3 && (b4 || b5)))) := hcl
      have HF : Hid (decide (Clash p (x, y, z) (x', y', z')) = false → ∀ N, Hid (∀ t (ht : t < k + 1) (h : t < ps.length), ¬ Clash p (x, y, z) ps[t]) ∧ Hid (Below (wo.heap.size + 1) (wo.alloc (Obj.cells (P3 x y z) 35)) ((wr.alloc (Obj.cells (P3 x' y' z') 35)).drewN N))) := fun h0 N => ⟨fun t ht h => by
          by_cases htk : t < k
          · exact hA.out t htk h
          · obtain rfl : t = k := by omega
            rw [HX'.out]; simpa using h0, below_drewN (hb2.out.alloc (by omega) _) _⟩
      have HT : Hid (decide (Clash p (x, y, z) (x', y', z')) = true → ∀ N, ¬ FOk s p m ps ∧ Below w.heap.size w ((wr.alloc (Obj.cells (P3 x' y' z') 35)).drewN N)) := fun h0 N => ⟨HNEG.out (fun h => by
          have := h.2 k hkt
          rw [HX'.out] at this
          exact this (by simpa using h0)), below_drewN (HBW2.out.alloc (by omega) _) _⟩
      clear hcl hA hb2 HBW2 hbr HC HNEG HBP HKP HZP HFO HB HK HZ0 hI HKB HBW HB3 HBW3 HPI HXYZ HX'
      cases b1 with
      | true =>
        go_wp2
        go_quiet (fail)
        go_wp2
        go_ret
        exact ⟨_, rfl, ⟨fun h => (by cases h), fun h => absurd h (HT.out (by rw [HCL.out]; simp) 0).1⟩, (HT.out (by rw [HCL.out]; simp) _).2⟩
      | false =>
        cases b2 with
        | true =>
          go_wp2
          go_quiet (fail)
          go_wp2
          go_ret
          exact ⟨_, rfl, ⟨fun h => (by cases h), fun h => absurd h (HT.out (by rw [HCL.out]; simp) 0).1⟩, (HT.out (by rw [HCL.out]; simp) _).2⟩
        | false =>
          cases b3 with
          | false =>
            go_wp2
            go_quiet (fail)
            go_wp2
            go_roundw
            case rel => exact ⟨k + 1, by omega, by go_num, (HF.out (by rw [HCL.out]; simp) 0).1, (HF.out (by rw [HCL.out]; simp) _).2⟩
            case measure => simp [intOf]; omega
          | true =>
            cases b4 with
            | true =>
              go_wp2
              go_quiet (fail)
              go_wp2
              go_ret
              exact ⟨_, rfl, ⟨fun h => (by cases h), fun h => absurd h (HT.out (by rw [HCL.out]; simp) 0).1⟩, (HT.out (by rw [HCL.out]; simp) _).2⟩
            | false =>
              cases b5 with
              | true =>
                go_wp2
                go_quiet (fail)
                go_wp2
                go_ret
                exact ⟨_, rfl, ⟨fun h => (by cases h), fun h => absurd h (HT.out (by rw [HCL.out]; simp) 0).1⟩, (HT.out (by rw [HCL.out]; simp) _).2⟩
              | false =>
                go_wp2
                go_quiet (fail)
                go_wp2
                go_roundw
                case rel => exact ⟨k + 1, by omega, by go_num, (HF.out (by rw [HCL.out]; simp) 0).1, (HF.out (by rw [HCL.out]; simp) _).2⟩
                case measure => simp [intOf]; omega
end Go.Proofs.YtikhfeafbckjlaaDoor
