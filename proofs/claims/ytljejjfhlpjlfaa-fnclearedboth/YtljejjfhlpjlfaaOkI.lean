/- The program's DuoOk; no condition. -/
import Derived.Test.YtljejjfhlpjlfaaDOk
import Derived.Test.YtljejjfhlpjlfaaMixC
namespace Go.Proofs.Ytljejjfhlpjlfaa
open Go.RowKit Go.ChangeShapes Go.WideShapes Go.ChangeAt
set_option linter.unusedVariables false
set_option linter.unusedSimpArgs false
set_option maxRecDepth 8000

set_option maxHeartbeats 6400000 in
theorem okI_c (s c s' c' : Int) (v : Value) (ls : Tri) (w : World) (h : Rt w v ls) :
   Calls Try.prog 23 #[.agg (D5 s c s' c' v)] w (OkR s c s' c' ls w) := by
  have HB : Hid (Below w.heap.size w (w.alloc (Obj.cells (D5 s c s' c' v) 31))) := (Below.refl _ _).alloc (Nat.le_refl _) _
  have HK : Hid (Blk (w.alloc (Obj.cells (D5 s c s' c' v) 31)) w.heap.size (D5 s c s' c' v) 31) := Blk.new _ _ _
  obtain ⟨a, cap, rfl, h1, h2, h3⟩ := h
  unfold maxLen at h2
  obtain ⟨W0, hW0⟩ : ∃ W0, w.alloc (Obj.cells (D5 s c s' c' (.slice a ls.length cap)) 31) = W0 := ⟨_, rfl⟩
  rw [hW0] at HB HK
  go_enter Try.func23, Try.ntmps23
  have HSD : Hid (Blk W0.drew w.heap.size (D5 s c s' c' (.slice a ls.length cap)) 31) := HK.out.drew
  have ne1 : Nonempty (At (fun W => Blk W w.heap.size (D5 s c s' c' (.slice a ls.length cap)) 31)) := ⟨⟨_, HSD.out⟩⟩
  have t0 : ∀ W : At (fun W => Blk W w.heap.size (D5 s c s' c' (.slice a ls.length cap)) 31), W.wd.cell? ⟨w.heap.size, 0, none⟩ = some (.int .i64 s) := fun W => by rw [W.ok.cell 0]; rfl
  have t1 : ∀ W : At (fun W => Blk W w.heap.size (D5 s c s' c' (.slice a ls.length cap)) 31), W.wd.cell? ⟨w.heap.size, 1, none⟩ = some (.int .i64 c) := fun W => by rw [W.ok.cell 1]; rfl
  have t2 : ∀ W : At (fun W => Blk W w.heap.size (D5 s c s' c' (.slice a ls.length cap)) 31), W.wd.cell? ⟨w.heap.size, 2, none⟩ = some (.int .i64 s') := fun W => by rw [W.ok.cell 2]; rfl
  have t3 : ∀ W : At (fun W => Blk W w.heap.size (D5 s c s' c' (.slice a ls.length cap)) 31), W.wd.cell? ⟨w.heap.size, 3, none⟩ = some (.int .i64 c') := fun W => by rw [W.ok.cell 3]; rfl
  go_wp2
  refine region_anyS (fun W => Blk W w.heap.size (D5 s c s' c' (.slice a ls.length cap)) 31) (by kernel_rfl) ?_
  refine anyS_quiet [true, true, true, true, true, true, false, false, false, false] 4 rfl (by kernel_rfl) (fun _ _ _ _ _ h => h) HSD.out ?_
  simp only [selT]
  repeat (go_big_quiet_step (fail))
  refine wpQuiet_nil ?_
  clear t0 t1 t2 t3 ne1 HK
  have HBD : Hid (Below w.heap.size w W0.drew) := HB.out.drew
  obtain ⟨u0, hu0⟩ : ∃ x, W0.drew = x := ⟨_, rfl⟩
  have HZD : Hid (W0.drew.heap.size = W0.heap.size) := rfl
  rw [hu0] at HSD HBD HZD ⊢
  clear hu0
  refine anyS_two 6 7 (by kernel_rfl) rfl rfl ?_ ?_
  · go_wp2
    refine ⟨HSD.out.alloc _, ?_⟩
    refine anyS_one 7 (by kernel_rfl) rfl ?_
    go_wp2
    refine ⟨(HSD.out.alloc _).alloc _, ?_⟩
    refine anyS_one 8 (by kernel_rfl) rfl ?_
    go_wp2
    refine ⟨(HSD.out.alloc _).alloc _, ?_⟩
    refine anyS_one 9 (by kernel_rfl) rfl ?_
    go_wp2
    refine ⟨(HSD.out.alloc _).alloc _, ?_⟩
    refine anyS_end (by kernel_rfl) ?_
    have kx : Blk ((u0.alloc (Obj.cells (H2 s c) 27)).alloc (Obj.cells (H2 s' c') 27)) u0.heap.size (H2 s c) 27 := (Blk.new _ _ _).alloc _
    have ky : Blk ((u0.alloc (Obj.cells (H2 s c) 27)).alloc (Obj.cells (H2 s' c') 27)) (u0.heap.size + 1) (H2 s' c') 27 := Blk.newAt _ _ _ 27 (by simp)
    have HK : Hid (Blk ((u0.alloc (Obj.cells (H2 s c) 27)).alloc (Obj.cells (H2 s' c') 27)) w.heap.size (D5 s c s' c' (.slice a ls.length cap)) 31) := (HSD.out.alloc _).alloc _
    have HB2 : Hid (Below w.heap.size w ((u0.alloc (Obj.cells (H2 s c) 27)).alloc (Obj.cells (H2 s' c') 27))) := (HBD.out.alloc HBD.out.size _).alloc (by have := HBD.out.size; simp; omega) _
    obtain ⟨W2, hW2⟩ : ∃ x, ((u0.alloc (Obj.cells (H2 s c) 27)).alloc (Obj.cells (H2 s' c') 27)) = x := ⟨_, rfl⟩
    obtain ⟨g4, hgb⟩ : ∃ x, u0.heap.size + 1 = x := ⟨_, rfl⟩
    obtain ⟨g3, hga⟩ : ∃ x, u0.heap.size = x := ⟨_, rfl⟩
    have HGG : Hid (g3 ≠ g4 ∧ w.heap.size ≤ g3 ∧ w.heap.size ≤ g4) := by have := HBD.out.size; refine ⟨?_, ?_, ?_⟩ <;> omega
    rw [hW2] at kx ky HK HB2 ⊢
    rw [hgb] at ky ⊢
    rw [hga] at kx ⊢
    have K3 : Hid (Blk W2 g3 (H2 s c) 27) := kx
    have K4 : Hid (Blk W2 g4 (H2 s' c') 27) := ky
    clear kx ky hW2 hga hgb HSD HBD HZD
    have c30 := K3.out.cell 0
    have c31 := K3.out.cell 1
    have c40 := K4.out.cell 0
    have c41 := K4.out.cell 1
    have c4 := HK.out.cell 4
    simp at c30 c31 c40 c41 c4
    by_cases a1 : 0 ≤ s ∧ s ≤ 4
    case neg =>
      have HN : Hid (¬ DOk s c s' c' ls) := fun h => a1 h.1
      have q1 : decide (0 ≤ s ∧ s ≤ 4) = false := decide_eq_false a1
      clear h3 K3 K4 HK
      go_wp2_with (first | (go_at_call 46; refine (stateOk_b _ _ (by first | exact q1 | exact q3) _).mono ?_; rintro e w2 ⟨rfl, hw2⟩; obtain rfl := hw2.symm) | (go_at_call 47; refine (callOk_b _ _ _ (by first | exact q5 | exact q6) _).mono ?_; rintro e w2 ⟨rfl, hw2⟩; obtain rfl := hw2.symm))
      go_ret
      exact OkR.no HN.out HB2.out
    have q1 : decide (0 ≤ s ∧ s ≤ 4) = true := decide_eq_true a1
    by_cases a2 : ¬ s = 2
    case neg =>
      have HN : Hid (¬ DOk s c s' c' ls) := fun h => a2 h.2.1
      have e2 : s = 2 := Classical.not_not.1 a2
      subst e2
      clear h3 K3 K4 HK
      go_wp2_with (first | (go_at_call 46; refine (stateOk_b _ _ (by first | exact q1 | exact q3) _).mono ?_; rintro e w2 ⟨rfl, hw2⟩; obtain rfl := hw2.symm) | (go_at_call 47; refine (callOk_b _ _ _ (by first | exact q5 | exact q6) _).mono ?_; rintro e w2 ⟨rfl, hw2⟩; obtain rfl := hw2.symm))
      go_ret
      exact OkR.no HN.out HB2.out
    by_cases a3 : 0 ≤ s' ∧ s' ≤ 4
    case neg =>
      have HN : Hid (¬ DOk s c s' c' ls) := fun h => a3 h.2.2.1
      have q3 : decide (0 ≤ s' ∧ s' ≤ 4) = false := decide_eq_false a3
      clear h3 K3 K4 HK
      go_wp2_with (first | (go_at_call 46; refine (stateOk_b _ _ (by first | exact q1 | exact q3) _).mono ?_; rintro e w2 ⟨rfl, hw2⟩; obtain rfl := hw2.symm) | (go_at_call 47; refine (callOk_b _ _ _ (by first | exact q5 | exact q6) _).mono ?_; rintro e w2 ⟨rfl, hw2⟩; obtain rfl := hw2.symm))
      go_ret
      exact OkR.no HN.out HB2.out
    have q3 : decide (0 ≤ s' ∧ s' ≤ 4) = true := decide_eq_true a3
    by_cases a4 : ¬ s' = 1
    case neg =>
      have HN : Hid (¬ DOk s c s' c' ls) := fun h => a4 h.2.2.2.1
      have e2 : s' = 1 := Classical.not_not.1 a4
      subst e2
      clear h3 K3 K4 HK
      go_wp2_with (first | (go_at_call 46; refine (stateOk_b _ _ (by first | exact q1 | exact q3) _).mono ?_; rintro e w2 ⟨rfl, hw2⟩; obtain rfl := hw2.symm) | (go_at_call 47; refine (callOk_b _ _ _ (by first | exact q5 | exact q6) _).mono ?_; rintro e w2 ⟨rfl, hw2⟩; obtain rfl := hw2.symm))
      go_ret
      exact OkR.no HN.out HB2.out
    by_cases a5 : 0 ≤ c ∧ c ≤ 1000
    case neg =>
      have HN : Hid (¬ DOk s c s' c' ls) := fun h => a5 h.2.2.2.2.1
      have q5 : decide (0 ≤ c ∧ c ≤ 1000) = false := decide_eq_false a5
      clear h3 K3 K4 HK
      go_wp2_with (first | (go_at_call 46; refine (stateOk_b _ _ (by first | exact q1 | exact q3) _).mono ?_; rintro e w2 ⟨rfl, hw2⟩; obtain rfl := hw2.symm) | (go_at_call 47; refine (callOk_b _ _ _ (by first | exact q5 | exact q6) _).mono ?_; rintro e w2 ⟨rfl, hw2⟩; obtain rfl := hw2.symm))
      go_ret
      exact OkR.no HN.out HB2.out
    have q5 : decide (0 ≤ c ∧ c ≤ 1000) = true := decide_eq_true a5
    by_cases a6 : 0 ≤ c' ∧ c' ≤ c
    case neg =>
      have HN : Hid (¬ DOk s c s' c' ls) := fun h => a6 h.2.2.2.2.2.1
      have q6 : decide (0 ≤ c' ∧ c' ≤ c) = false := decide_eq_false a6
      clear h3 K3 K4 HK
      go_wp2_with (first | (go_at_call 46; refine (stateOk_b _ _ (by first | exact q1 | exact q3) _).mono ?_; rintro e w2 ⟨rfl, hw2⟩; obtain rfl := hw2.symm) | (go_at_call 47; refine (callOk_b _ _ _ (by first | exact q5 | exact q6) _).mono ?_; rintro e w2 ⟨rfl, hw2⟩; obtain rfl := hw2.symm))
      go_ret
      exact OkR.no HN.out HB2.out
    have q6 : decide (0 ≤ c' ∧ c' ≤ c) = true := decide_eq_true a6
    by_cases a7 : ls.length ≤ 40
    case neg =>
      have HN : Hid (¬ DOk s c s' c' ls) := fun h => a7 h.2.2.2.2.2.2.1
      have h40 : (40 : Int) < (ls.length : Int) := by omega
      clear h3 K3 K4 HK
      go_wp2_with (first | (go_at_call 46; refine (stateOk_b _ _ (by first | exact q1 | exact q3) _).mono ?_; rintro e w2 ⟨rfl, hw2⟩; obtain rfl := hw2.symm) | (go_at_call 47; refine (callOk_b _ _ _ (by first | exact q5 | exact q6) _).mono ?_; rintro e w2 ⟨rfl, hw2⟩; obtain rfl := hw2.symm))
      go_ret
      exact OkR.no HN.out HB2.out
    have h40 : ¬ (40 : Int) < (ls.length : Int) := by omega
    have HFO : Hid ((∀ k (h : k < ls.length), SgOk c ls[k]) → DOk s c s' c' ls) := fun h => ⟨a1, a2, a3, a4, a5, a6, a7, h⟩
    clear a1 a3 a5 a6 a7
    go_wp2_with (first | (go_at_call 46; refine (stateOk_b _ _ (by first | exact q1 | exact q3) _).mono ?_; rintro e w2 ⟨rfl, hw2⟩; obtain rfl := hw2.symm) | (go_at_call 47; refine (callOk_b _ _ _ (by first | exact q5 | exact q6) _).mono ?_; rintro e w2 ⟨rfl, hw2⟩; obtain rfl := hw2.symm))
    clear q1 q3 q5 q6 c30 c31 c40 c41 c4 h40 a2 a4
    go_loopw [46] (fun i wr => ∃ j : Nat, j ≤ ls.length ∧ i = .int .i64 j ∧ Hid (∀ k (h : k < ls.length), k < j → SgOk c ls[k]) ∧ Hid (Below W2.heap.size W2 wr)) (fun i _ => ls.length - (intOf i).toNat)
    case atStart => exact ⟨0, Nat.zero_le _, rfl, fun k h hk => by omega, Below.refl _ _⟩
    case round =>
      obtain ⟨j, hj, rfl, hI, hbr⟩ := hrel
      have HBW : Hid (Below w.heap.size w wr) := belowCall HB2.out hbr.out HB2.out.size
      by_cases hlt : j < ls.length
      case neg =>
        obtain rfl : j = ls.length := by omega
        clear h3
        go_wp2
        go_ret
        exact OkR.yes (HFO.out fun k h => hI.out k h h) HBW.out
      case pos =>
      rcases h3 with h3 | ⟨b, off, rfl, h4⟩
      · subst h3; simp at hlt
      obtain ⟨x, ex⟩ : ∃ x, ls[j].1 = x := ⟨_, rfl⟩
      obtain ⟨y, ey⟩ : ∃ y, ls[j].2.1 = y := ⟨_, rfl⟩
      obtain ⟨z, ez⟩ : ∃ z, ls[j].2.2 = z := ⟨_, rfl⟩
      have hc := h4 j hlt
      rw [ex, ey, ez] at hc
      have hcb : b < w.heap.size := block_lt_of_cell hc.1
      have hc0 : wr.cell? ⟨b, off + j * 3, none⟩ = some (.int .i64 x) := by rw [HBW.out.cell hcb]; exact hc.1
      have hc1 : wr.cell? ⟨b, off + j * 3 + 1, none⟩ = some (.int .i64 y) := by rw [HBW.out.cell hcb]; exact hc.2.1
      have hc2 : wr.cell? ⟨b, off + j * 3 + 2, none⟩ = some (.int .i64 z) := by rw [HBW.out.cell hcb]; exact hc.2.2
      have HX : Hid (ls[j] = (x, y, z)) := by rw [← ex, ← ey, ← ez]; rfl
      have HNEG : Hid (¬ SgOk c (x, y, z) → ¬ DOk s c s' c' ls) := fun h hf => h (by have := hf.2.2.2.2.2.2.2 j hlt; rw [HX.out] at this; exact this)
      have HK3 := K3.out.below hbr.out K3.out.lt
      have g3l : g3 < wr.heap.size := HK3.lt
      have hjI : (j : Int) < (ls.length : Int) := by omega
      have cc := HK3.cell 1
      simp at cc
      have HBA : Hid (Below w.heap.size w (wr.alloc (Obj.cells (P3 x y z) 66))) := HBW.out.alloc HBW.out.size _
      have HBR : Hid (Below W2.heap.size W2 (wr.alloc (Obj.cells (P3 x y z) 66))) := hbr.out.alloc hbr.out.size _
      clear h4 ex ey ez hc HK3 K3 K4 HK HB2 hbr HBW
      by_cases b1 : 0 ≤ x ∧ x ≤ 1
      case neg =>
        have HN : Hid (¬ DOk s c s' c' ls) := HNEG.out fun h => b1 h.1
        have p1 : decide (0 ≤ x ∧ x ≤ 1) = false := decide_eq_false b1
        go_wp2_with (first | (go_at_call 48; refine (halfOk_b _ _ (by first | exact p1) _).mono ?_; rintro e w2 ⟨rfl, hw2⟩; obtain rfl := hw2.symm) | (go_at_call 47; refine (callOk_b _ _ _ (by first | exact p3) _).mono ?_; rintro e w2 ⟨rfl, hw2⟩; obtain rfl := hw2.symm))
        go_ret
        exact OkR.no HN.out HBA.out
      have p1 : decide (0 ≤ x ∧ x ≤ 1) = true := decide_eq_true b1
      by_cases b2 : 1 ≤ y
      case neg =>
        have HN : Hid (¬ DOk s c s' c' ls) := HNEG.out fun h => b2 h.2.1.1
        go_wp2_with (first | (go_at_call 48; refine (halfOk_b _ _ (by first | exact p1) _).mono ?_; rintro e w2 ⟨rfl, hw2⟩; obtain rfl := hw2.symm) | (go_at_call 47; refine (callOk_b _ _ _ (by first | exact p3) _).mono ?_; rintro e w2 ⟨rfl, hw2⟩; obtain rfl := hw2.symm))
        go_ret
        exact OkR.no HN.out HBA.out
      by_cases b3 : y ≤ 4
      case neg =>
        have HN : Hid (¬ DOk s c s' c' ls) := HNEG.out fun h => b3 h.2.1.2
        go_wp2_with (first | (go_at_call 48; refine (halfOk_b _ _ (by first | exact p1) _).mono ?_; rintro e w2 ⟨rfl, hw2⟩; obtain rfl := hw2.symm) | (go_at_call 47; refine (callOk_b _ _ _ (by first | exact p3) _).mono ?_; rintro e w2 ⟨rfl, hw2⟩; obtain rfl := hw2.symm))
        go_ret
        exact OkR.no HN.out HBA.out
      by_cases b4 : 0 ≤ z ∧ z ≤ c
      case neg =>
        have HN : Hid (¬ DOk s c s' c' ls) := HNEG.out fun h => b4 h.2.2
        have p3 : decide (0 ≤ z ∧ z ≤ c) = false := decide_eq_false b4
        go_wp2_with (first | (go_at_call 48; refine (halfOk_b _ _ (by first | exact p1) _).mono ?_; rintro e w2 ⟨rfl, hw2⟩; obtain rfl := hw2.symm) | (go_at_call 47; refine (callOk_b _ _ _ (by first | exact p3) _).mono ?_; rintro e w2 ⟨rfl, hw2⟩; obtain rfl := hw2.symm))
        go_ret
        exact OkR.no HN.out HBA.out
      have p3 : decide (0 ≤ z ∧ z ≤ c) = true := decide_eq_true b4
      have HS : Hid (SgOk c (x, y, z)) := ⟨b1, ⟨b2, b3⟩, b4⟩
      go_wp2_with (first | (go_at_call 48; refine (halfOk_b _ _ (by first | exact p1) _).mono ?_; rintro e w2 ⟨rfl, hw2⟩; obtain rfl := hw2.symm) | (go_at_call 47; refine (callOk_b _ _ _ (by first | exact p3) _).mono ?_; rintro e w2 ⟨rfl, hw2⟩; obtain rfl := hw2.symm))
      go_roundw
      case rel =>
        refine ⟨j + 1, by omega, by go_num, fun k h hk => ?_, HBR.out⟩
        by_cases hkj : k < j
        · exact hI.out k h hkj
        · obtain rfl : k = j := by omega
          rw [HX.out]; exact HS.out
      case measure => simp [intOf]; omega
  · go_wp2
    refine ⟨HSD.out.alloc _, ?_⟩
    refine anyS_one 6 (by kernel_rfl) rfl ?_
    go_wp2
    refine ⟨(HSD.out.alloc _).alloc _, ?_⟩
    refine anyS_one 8 (by kernel_rfl) rfl ?_
    go_wp2
    refine ⟨(HSD.out.alloc _).alloc _, ?_⟩
    refine anyS_one 9 (by kernel_rfl) rfl ?_
    go_wp2
    refine ⟨(HSD.out.alloc _).alloc _, ?_⟩
    refine anyS_end (by kernel_rfl) ?_
    have kx : Blk ((u0.alloc (Obj.cells (H2 s' c') 27)).alloc (Obj.cells (H2 s c) 27)) u0.heap.size (H2 s' c') 27 := (Blk.new _ _ _).alloc _
    have ky : Blk ((u0.alloc (Obj.cells (H2 s' c') 27)).alloc (Obj.cells (H2 s c) 27)) (u0.heap.size + 1) (H2 s c) 27 := Blk.newAt _ _ _ 27 (by simp)
    have HK : Hid (Blk ((u0.alloc (Obj.cells (H2 s' c') 27)).alloc (Obj.cells (H2 s c) 27)) w.heap.size (D5 s c s' c' (.slice a ls.length cap)) 31) := (HSD.out.alloc _).alloc _
    have HB2 : Hid (Below w.heap.size w ((u0.alloc (Obj.cells (H2 s' c') 27)).alloc (Obj.cells (H2 s c) 27))) := (HBD.out.alloc HBD.out.size _).alloc (by have := HBD.out.size; simp; omega) _
    obtain ⟨W2, hW2⟩ : ∃ x, ((u0.alloc (Obj.cells (H2 s' c') 27)).alloc (Obj.cells (H2 s c) 27)) = x := ⟨_, rfl⟩
    obtain ⟨g3, hgb⟩ : ∃ x, u0.heap.size + 1 = x := ⟨_, rfl⟩
    obtain ⟨g4, hga⟩ : ∃ x, u0.heap.size = x := ⟨_, rfl⟩
    have HGG : Hid (g3 ≠ g4 ∧ w.heap.size ≤ g3 ∧ w.heap.size ≤ g4) := by have := HBD.out.size; refine ⟨?_, ?_, ?_⟩ <;> omega
    rw [hW2] at kx ky HK HB2 ⊢
    rw [hgb] at ky ⊢
    rw [hga] at kx ⊢
    have K3 : Hid (Blk W2 g3 (H2 s c) 27) := ky
    have K4 : Hid (Blk W2 g4 (H2 s' c') 27) := kx
    clear kx ky hW2 hga hgb HSD HBD HZD
    have c30 := K3.out.cell 0
    have c31 := K3.out.cell 1
    have c40 := K4.out.cell 0
    have c41 := K4.out.cell 1
    have c4 := HK.out.cell 4
    simp at c30 c31 c40 c41 c4
    by_cases a1 : 0 ≤ s ∧ s ≤ 4
    case neg =>
      have HN : Hid (¬ DOk s c s' c' ls) := fun h => a1 h.1
      have q1 : decide (0 ≤ s ∧ s ≤ 4) = false := decide_eq_false a1
      clear h3 K3 K4 HK
      go_wp2_with (first | (go_at_call 46; refine (stateOk_b _ _ (by first | exact q1 | exact q3) _).mono ?_; rintro e w2 ⟨rfl, hw2⟩; obtain rfl := hw2.symm) | (go_at_call 47; refine (callOk_b _ _ _ (by first | exact q5 | exact q6) _).mono ?_; rintro e w2 ⟨rfl, hw2⟩; obtain rfl := hw2.symm))
      go_ret
      exact OkR.no HN.out HB2.out
    have q1 : decide (0 ≤ s ∧ s ≤ 4) = true := decide_eq_true a1
    by_cases a2 : ¬ s = 2
    case neg =>
      have HN : Hid (¬ DOk s c s' c' ls) := fun h => a2 h.2.1
      have e2 : s = 2 := Classical.not_not.1 a2
      subst e2
      clear h3 K3 K4 HK
      go_wp2_with (first | (go_at_call 46; refine (stateOk_b _ _ (by first | exact q1 | exact q3) _).mono ?_; rintro e w2 ⟨rfl, hw2⟩; obtain rfl := hw2.symm) | (go_at_call 47; refine (callOk_b _ _ _ (by first | exact q5 | exact q6) _).mono ?_; rintro e w2 ⟨rfl, hw2⟩; obtain rfl := hw2.symm))
      go_ret
      exact OkR.no HN.out HB2.out
    by_cases a3 : 0 ≤ s' ∧ s' ≤ 4
    case neg =>
      have HN : Hid (¬ DOk s c s' c' ls) := fun h => a3 h.2.2.1
      have q3 : decide (0 ≤ s' ∧ s' ≤ 4) = false := decide_eq_false a3
      clear h3 K3 K4 HK
      go_wp2_with (first | (go_at_call 46; refine (stateOk_b _ _ (by first | exact q1 | exact q3) _).mono ?_; rintro e w2 ⟨rfl, hw2⟩; obtain rfl := hw2.symm) | (go_at_call 47; refine (callOk_b _ _ _ (by first | exact q5 | exact q6) _).mono ?_; rintro e w2 ⟨rfl, hw2⟩; obtain rfl := hw2.symm))
      go_ret
      exact OkR.no HN.out HB2.out
    have q3 : decide (0 ≤ s' ∧ s' ≤ 4) = true := decide_eq_true a3
    by_cases a4 : ¬ s' = 1
    case neg =>
      have HN : Hid (¬ DOk s c s' c' ls) := fun h => a4 h.2.2.2.1
      have e2 : s' = 1 := Classical.not_not.1 a4
      subst e2
      clear h3 K3 K4 HK
      go_wp2_with (first | (go_at_call 46; refine (stateOk_b _ _ (by first | exact q1 | exact q3) _).mono ?_; rintro e w2 ⟨rfl, hw2⟩; obtain rfl := hw2.symm) | (go_at_call 47; refine (callOk_b _ _ _ (by first | exact q5 | exact q6) _).mono ?_; rintro e w2 ⟨rfl, hw2⟩; obtain rfl := hw2.symm))
      go_ret
      exact OkR.no HN.out HB2.out
    by_cases a5 : 0 ≤ c ∧ c ≤ 1000
    case neg =>
      have HN : Hid (¬ DOk s c s' c' ls) := fun h => a5 h.2.2.2.2.1
      have q5 : decide (0 ≤ c ∧ c ≤ 1000) = false := decide_eq_false a5
      clear h3 K3 K4 HK
      go_wp2_with (first | (go_at_call 46; refine (stateOk_b _ _ (by first | exact q1 | exact q3) _).mono ?_; rintro e w2 ⟨rfl, hw2⟩; obtain rfl := hw2.symm) | (go_at_call 47; refine (callOk_b _ _ _ (by first | exact q5 | exact q6) _).mono ?_; rintro e w2 ⟨rfl, hw2⟩; obtain rfl := hw2.symm))
      go_ret
      exact OkR.no HN.out HB2.out
    have q5 : decide (0 ≤ c ∧ c ≤ 1000) = true := decide_eq_true a5
    by_cases a6 : 0 ≤ c' ∧ c' ≤ c
    case neg =>
      have HN : Hid (¬ DOk s c s' c' ls) := fun h => a6 h.2.2.2.2.2.1
      have q6 : decide (0 ≤ c' ∧ c' ≤ c) = false := decide_eq_false a6
      clear h3 K3 K4 HK
      go_wp2_with (first | (go_at_call 46; refine (stateOk_b _ _ (by first | exact q1 | exact q3) _).mono ?_; rintro e w2 ⟨rfl, hw2⟩; obtain rfl := hw2.symm) | (go_at_call 47; refine (callOk_b _ _ _ (by first | exact q5 | exact q6) _).mono ?_; rintro e w2 ⟨rfl, hw2⟩; obtain rfl := hw2.symm))
      go_ret
      exact OkR.no HN.out HB2.out
    have q6 : decide (0 ≤ c' ∧ c' ≤ c) = true := decide_eq_true a6
    by_cases a7 : ls.length ≤ 40
    case neg =>
      have HN : Hid (¬ DOk s c s' c' ls) := fun h => a7 h.2.2.2.2.2.2.1
      have h40 : (40 : Int) < (ls.length : Int) := by omega
      clear h3 K3 K4 HK
      go_wp2_with (first | (go_at_call 46; refine (stateOk_b _ _ (by first | exact q1 | exact q3) _).mono ?_; rintro e w2 ⟨rfl, hw2⟩; obtain rfl := hw2.symm) | (go_at_call 47; refine (callOk_b _ _ _ (by first | exact q5 | exact q6) _).mono ?_; rintro e w2 ⟨rfl, hw2⟩; obtain rfl := hw2.symm))
      go_ret
      exact OkR.no HN.out HB2.out
    have h40 : ¬ (40 : Int) < (ls.length : Int) := by omega
    have HFO : Hid ((∀ k (h : k < ls.length), SgOk c ls[k]) → DOk s c s' c' ls) := fun h => ⟨a1, a2, a3, a4, a5, a6, a7, h⟩
    clear a1 a3 a5 a6 a7
    go_wp2_with (first | (go_at_call 46; refine (stateOk_b _ _ (by first | exact q1 | exact q3) _).mono ?_; rintro e w2 ⟨rfl, hw2⟩; obtain rfl := hw2.symm) | (go_at_call 47; refine (callOk_b _ _ _ (by first | exact q5 | exact q6) _).mono ?_; rintro e w2 ⟨rfl, hw2⟩; obtain rfl := hw2.symm))
    clear q1 q3 q5 q6 c30 c31 c40 c41 c4 h40 a2 a4
    go_loopw [46] (fun i wr => ∃ j : Nat, j ≤ ls.length ∧ i = .int .i64 j ∧ Hid (∀ k (h : k < ls.length), k < j → SgOk c ls[k]) ∧ Hid (Below W2.heap.size W2 wr)) (fun i _ => ls.length - (intOf i).toNat)
    case atStart => exact ⟨0, Nat.zero_le _, rfl, fun k h hk => by omega, Below.refl _ _⟩
    case round =>
      obtain ⟨j, hj, rfl, hI, hbr⟩ := hrel
      have HBW : Hid (Below w.heap.size w wr) := belowCall HB2.out hbr.out HB2.out.size
      by_cases hlt : j < ls.length
      case neg =>
        obtain rfl : j = ls.length := by omega
        clear h3
        go_wp2
        go_ret
        exact OkR.yes (HFO.out fun k h => hI.out k h h) HBW.out
      case pos =>
      rcases h3 with h3 | ⟨b, off, rfl, h4⟩
      · subst h3; simp at hlt
      obtain ⟨x, ex⟩ : ∃ x, ls[j].1 = x := ⟨_, rfl⟩
      obtain ⟨y, ey⟩ : ∃ y, ls[j].2.1 = y := ⟨_, rfl⟩
      obtain ⟨z, ez⟩ : ∃ z, ls[j].2.2 = z := ⟨_, rfl⟩
      have hc := h4 j hlt
      rw [ex, ey, ez] at hc
      have hcb : b < w.heap.size := block_lt_of_cell hc.1
      have hc0 : wr.cell? ⟨b, off + j * 3, none⟩ = some (.int .i64 x) := by rw [HBW.out.cell hcb]; exact hc.1
      have hc1 : wr.cell? ⟨b, off + j * 3 + 1, none⟩ = some (.int .i64 y) := by rw [HBW.out.cell hcb]; exact hc.2.1
      have hc2 : wr.cell? ⟨b, off + j * 3 + 2, none⟩ = some (.int .i64 z) := by rw [HBW.out.cell hcb]; exact hc.2.2
      have HX : Hid (ls[j] = (x, y, z)) := by rw [← ex, ← ey, ← ez]; rfl
      have HNEG : Hid (¬ SgOk c (x, y, z) → ¬ DOk s c s' c' ls) := fun h hf => h (by have := hf.2.2.2.2.2.2.2 j hlt; rw [HX.out] at this; exact this)
      have HK3 := K3.out.below hbr.out K3.out.lt
      have g3l : g3 < wr.heap.size := HK3.lt
      have hjI : (j : Int) < (ls.length : Int) := by omega
      have cc := HK3.cell 1
      simp at cc
      have HBA : Hid (Below w.heap.size w (wr.alloc (Obj.cells (P3 x y z) 66))) := HBW.out.alloc HBW.out.size _
      have HBR : Hid (Below W2.heap.size W2 (wr.alloc (Obj.cells (P3 x y z) 66))) := hbr.out.alloc hbr.out.size _
      clear h4 ex ey ez hc HK3 K3 K4 HK HB2 hbr HBW
      by_cases b1 : 0 ≤ x ∧ x ≤ 1
      case neg =>
        have HN : Hid (¬ DOk s c s' c' ls) := HNEG.out fun h => b1 h.1
        have p1 : decide (0 ≤ x ∧ x ≤ 1) = false := decide_eq_false b1
        go_wp2_with (first | (go_at_call 48; refine (halfOk_b _ _ (by first | exact p1) _).mono ?_; rintro e w2 ⟨rfl, hw2⟩; obtain rfl := hw2.symm) | (go_at_call 47; refine (callOk_b _ _ _ (by first | exact p3) _).mono ?_; rintro e w2 ⟨rfl, hw2⟩; obtain rfl := hw2.symm))
        go_ret
        exact OkR.no HN.out HBA.out
      have p1 : decide (0 ≤ x ∧ x ≤ 1) = true := decide_eq_true b1
      by_cases b2 : 1 ≤ y
      case neg =>
        have HN : Hid (¬ DOk s c s' c' ls) := HNEG.out fun h => b2 h.2.1.1
        go_wp2_with (first | (go_at_call 48; refine (halfOk_b _ _ (by first | exact p1) _).mono ?_; rintro e w2 ⟨rfl, hw2⟩; obtain rfl := hw2.symm) | (go_at_call 47; refine (callOk_b _ _ _ (by first | exact p3) _).mono ?_; rintro e w2 ⟨rfl, hw2⟩; obtain rfl := hw2.symm))
        go_ret
        exact OkR.no HN.out HBA.out
      by_cases b3 : y ≤ 4
      case neg =>
        have HN : Hid (¬ DOk s c s' c' ls) := HNEG.out fun h => b3 h.2.1.2
        go_wp2_with (first | (go_at_call 48; refine (halfOk_b _ _ (by first | exact p1) _).mono ?_; rintro e w2 ⟨rfl, hw2⟩; obtain rfl := hw2.symm) | (go_at_call 47; refine (callOk_b _ _ _ (by first | exact p3) _).mono ?_; rintro e w2 ⟨rfl, hw2⟩; obtain rfl := hw2.symm))
        go_ret
        exact OkR.no HN.out HBA.out
      by_cases b4 : 0 ≤ z ∧ z ≤ c
      case neg =>
        have HN : Hid (¬ DOk s c s' c' ls) := HNEG.out fun h => b4 h.2.2
        have p3 : decide (0 ≤ z ∧ z ≤ c) = false := decide_eq_false b4
        go_wp2_with (first | (go_at_call 48; refine (halfOk_b _ _ (by first | exact p1) _).mono ?_; rintro e w2 ⟨rfl, hw2⟩; obtain rfl := hw2.symm) | (go_at_call 47; refine (callOk_b _ _ _ (by first | exact p3) _).mono ?_; rintro e w2 ⟨rfl, hw2⟩; obtain rfl := hw2.symm))
        go_ret
        exact OkR.no HN.out HBA.out
      have p3 : decide (0 ≤ z ∧ z ≤ c) = true := decide_eq_true b4
      have HS : Hid (SgOk c (x, y, z)) := ⟨b1, ⟨b2, b3⟩, b4⟩
      go_wp2_with (first | (go_at_call 48; refine (halfOk_b _ _ (by first | exact p1) _).mono ?_; rintro e w2 ⟨rfl, hw2⟩; obtain rfl := hw2.symm) | (go_at_call 47; refine (callOk_b _ _ _ (by first | exact p3) _).mono ?_; rintro e w2 ⟨rfl, hw2⟩; obtain rfl := hw2.symm))
      go_roundw
      case rel =>
        refine ⟨j + 1, by omega, by go_num, fun k h hk => ?_, HBR.out⟩
        by_cases hkj : k < j
        · exact hI.out k h hkj
        · obtain rfl : k = j := by omega
          rw [HX.out]; exact HS.out
      case measure => simp [intOf]; omega
end Go.Proofs.Ytljejjfhlpjlfaa
