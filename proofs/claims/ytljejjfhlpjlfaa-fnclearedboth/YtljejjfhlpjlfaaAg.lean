/- The program's Agree, and the model's; no condition. -/
import Derived.Test.YtljejjfhlpjlfaaOkI
import Derived.Test.YtljejjfhlpjlfaaOkM
namespace Go.Proofs.Ytljejjfhlpjlfaa
open Go.RowKit Go.ChangeShapes Go.WideShapes Go.ChangeAt
set_option linter.unusedVariables false
set_option linter.unusedSimpArgs false
set_option maxRecDepth 8000

/-- both halves agree -/
def AgC (s c s' c' : Int) : Prop := (c = c' ∧ ((s = 0 ∧ s' = 0) ∨ (s = 3 ∧ s' = 3) ∨ (s = 1 ∧ s' = 2))) ∨ (s = 1 ∧ s' = 0 ∧ c' < c)
def AgP (s c s' c' : Int) (ls : Tri) : Prop := DOk s c s' c' ls ∧ AgC s c s' c'
def AgR (s c s' c' : Int) (ls : Tri) (w : World) (e : Ending) (w' : World) : Prop := ∃ r, e = .returned (.bool r) ∧ (r = true ↔ AgP s c s' c' ls) ∧ Below w.heap.size w w'
theorem AgR.no {s c s' c' : Int} {ls : Tri} {w w' : World} (h : ¬ AgP s c s' c' ls) (b : Below w.heap.size w w') : AgR s c s' c' ls w (.returned (.bool false)) w' := ⟨_, rfl, ⟨fun h => (by cases h), fun h' => absurd h' h⟩, b⟩
theorem AgR.mk {s c s' c' : Int} {ls : Tri} {w w' : World} (h : DOk s c s' c' ls) (r : Bool) (hr : r = true ↔ AgC s c s' c') (b : Below w.heap.size w w') : AgR s c s' c' ls w (.returned (.bool r)) w' := ⟨_, rfl, ⟨fun e => ⟨h, hr.1 e⟩, fun e => hr.2 e.2⟩, b⟩


set_option maxHeartbeats 6400000 in
theorem agI_c (s c s' c' : Int) (v : Value) (ls : Tri) (w : World) (h : Rt w v ls) :
   Calls Try.prog 16 #[.agg (D5 s c s' c' v)] w (AgR s c s' c' ls w) := by
  have HB : Hid (Below w.heap.size w (w.alloc (Obj.cells (D5 s c s' c' v) 31))) := (Below.refl _ _).alloc (Nat.le_refl _) _
  have HK : Hid (Blk (w.alloc (Obj.cells (D5 s c s' c' v) 31)) w.heap.size (D5 s c s' c' v) 31) := Blk.new _ _ _
  have HR : Hid (∀ W, Below w.heap.size w W → Rt W v ls) := fun W hW => h.below hW
  obtain ⟨a, cap, rfl, -⟩ := h
  obtain ⟨W0, hW0⟩ : ∃ W0, w.alloc (Obj.cells (D5 s c s' c' (.slice a ls.length cap)) 31) = W0 := ⟨_, rfl⟩
  rw [hW0] at HB HK
  go_enter Try.func16, Try.ntmps16
  have c0 := HK.out.cell 0
  have c1 := HK.out.cell 1
  have c2 := HK.out.cell 2
  have c3 := HK.out.cell 3
  have c4 := HK.out.cell 4
  simp at c0 c1 c2 c3 c4
  go_wp2_with (fail)
  clear hW0
  refine (okI_c s c s' c' _ ls W0 (HR.out _ HB.out)).mono ?_
  rintro e w2 ⟨r, rfl, hr, b2⟩
  have HB1 : Hid (Below w.heap.size w w2) := belowCall HB.out b2 HB.out.size
  have HK1 : Hid (Blk w2 w.heap.size (D5 s c s' c' (.slice a ls.length cap)) 31) := HK.out.below b2 HK.out.lt
  clear c0 c1 c2 c3 c4 HB HK b2
  cases r with
  | false =>
    have HN : Hid (¬ AgP s c s' c' ls) := fun h => by have := hr.2 h.1; cases this
    go_wp2
    go_ret
    exact AgR.no HN.out HB1.out
  | true =>
    have HD : Hid (DOk s c s' c' ls) := hr.1 rfl
    clear hr HR
    have HB : Hid (Below w.heap.size w w2) := HB1.out
    have HK : Hid (Blk w2 w.heap.size (D5 s c s' c' (.slice a ls.length cap)) 31) := HK1.out
    clear HB1 HK1
    have HSD : Hid (Blk w2.drew w.heap.size (D5 s c s' c' (.slice a ls.length cap)) 31) := HK.out.drew
    have ne1 : Nonempty (At (fun W => Blk W w.heap.size (D5 s c s' c' (.slice a ls.length cap)) 31)) := ⟨⟨_, HSD.out⟩⟩
    have t0 : ∀ W : At (fun W => Blk W w.heap.size (D5 s c s' c' (.slice a ls.length cap)) 31), W.wd.cell? ⟨w.heap.size, 0, none⟩ = some (.int .i64 s) := fun W => by rw [W.ok.cell 0]; rfl
    have t1 : ∀ W : At (fun W => Blk W w.heap.size (D5 s c s' c' (.slice a ls.length cap)) 31), W.wd.cell? ⟨w.heap.size, 1, none⟩ = some (.int .i64 c) := fun W => by rw [W.ok.cell 1]; rfl
    have t2 : ∀ W : At (fun W => Blk W w.heap.size (D5 s c s' c' (.slice a ls.length cap)) 31), W.wd.cell? ⟨w.heap.size, 2, none⟩ = some (.int .i64 s') := fun W => by rw [W.ok.cell 2]; rfl
    have t3 : ∀ W : At (fun W => Blk W w.heap.size (D5 s c s' c' (.slice a ls.length cap)) 31), W.wd.cell? ⟨w.heap.size, 3, none⟩ = some (.int .i64 c') := fun W => by rw [W.ok.cell 3]; rfl
    go_wp2
    refine region_anyS (fun W => Blk W w.heap.size (D5 s c s' c' (.slice a ls.length cap)) 31) (by kernel_rfl) ?_
    refine anyS_quiet [true, true, true, true, true, true, false, false, false, false] 4 rfl (by kernel_rfl) (fun _ _ _ _ _ h => h) HSD.out ?_
    simp only [selT]
    repeat (go_big_quiet_step (fail))
    refine wpQuiet_nil ?_
    clear t0 t1 t2 t3 ne1 HK
    have HBD : Hid (Below w.heap.size w w2.drew) := HB.out.drew
    obtain ⟨u0, hu0⟩ : ∃ x, w2.drew = x := ⟨_, rfl⟩
    have HZD : Hid (w2.drew.heap.size = w2.heap.size) := rfl
    rw [hu0] at HSD HBD HZD ⊢
    clear hu0
    refine anyS_two 6 7 (by kernel_rfl) rfl rfl ?_ ?_
    · go_wp2
      refine ⟨HSD.out.alloc _, ?_⟩
      refine anyS_one 7 (by kernel_rfl) rfl ?_
      go_wp2
      refine ⟨(HSD.out.alloc _).alloc _, ?_⟩
      refine anyS_one 8 (by kernel_rfl) rfl ?_
      go_wp2
      refine ⟨(HSD.out.alloc _).alloc _, ?_⟩
      refine anyS_one 9 (by kernel_rfl) rfl ?_
      go_wp2
      refine ⟨(HSD.out.alloc _).alloc _, ?_⟩
      refine anyS_end (by kernel_rfl) ?_
      have kx : Blk ((u0.alloc (Obj.cells (H2 s c) 27)).alloc (Obj.cells (H2 s' c') 27)) u0.heap.size (H2 s c) 27 := (Blk.new _ _ _).alloc _
      have ky : Blk ((u0.alloc (Obj.cells (H2 s c) 27)).alloc (Obj.cells (H2 s' c') 27)) (u0.heap.size + 1) (H2 s' c') 27 := Blk.newAt _ _ _ 27 (by simp)
      have HK : Hid (Blk ((u0.alloc (Obj.cells (H2 s c) 27)).alloc (Obj.cells (H2 s' c') 27)) w.heap.size (D5 s c s' c' (.slice a ls.length cap)) 31) := (HSD.out.alloc _).alloc _
      have HB2 : Hid (Below w.heap.size w ((u0.alloc (Obj.cells (H2 s c) 27)).alloc (Obj.cells (H2 s' c') 27))) := (HBD.out.alloc HBD.out.size _).alloc (by have := HBD.out.size; simp; omega) _
      obtain ⟨W2, hW2⟩ : ∃ x, ((u0.alloc (Obj.cells (H2 s c) 27)).alloc (Obj.cells (H2 s' c') 27)) = x := ⟨_, rfl⟩
      obtain ⟨g4, hgb⟩ : ∃ x, u0.heap.size + 1 = x := ⟨_, rfl⟩
      obtain ⟨g3, hga⟩ : ∃ x, u0.heap.size = x := ⟨_, rfl⟩
      have HGG : Hid (g3 ≠ g4 ∧ w.heap.size ≤ g3 ∧ w.heap.size ≤ g4) := by have := HBD.out.size; refine ⟨?_, ?_, ?_⟩ <;> omega
      rw [hW2] at kx ky HK HB2 ⊢
      rw [hgb] at ky ⊢
      rw [hga] at kx ⊢
      have K3 : Hid (Blk W2 g3 (H2 s c) 27) := kx
      have K4 : Hid (Blk W2 g4 (H2 s' c') 27) := ky
      clear kx ky hW2 hga hgb HSD HBD HZD
      have c30 := K3.out.cell 0
      have c31 := K3.out.cell 1
      have c40 := K4.out.cell 0
      have c41 := K4.out.cell 1
      simp at c30 c31 c40 c41
      have HBF : Hid _ := HB2.out
      clear HB2 HK K3 K4 HGG
      by_cases e : c = c'
      case neg =>
        have eb : (c != c') = true := by simpa using e
        have HE : Hid (c' < c) := by
          have h1 := HD.out.2.2.2.2.2.1.2
          show c' < c
          omega
        have hE := HE.out
        go_wp2
        all_goals
          go_ret
          refine AgR.mk HD.out _ ?_ HBF.out
          unfold AgC
          first | (simp; done) | (simp; omega) | (simp_all; done) | (simp_all; omega)
      subst e
      have eb : (c != c) = false := by simp
      by_cases s0 : s = 0
      case pos =>
        subst s0
        go_wp2
        all_goals
          go_ret
          refine AgR.mk HD.out _ ?_ HBF.out
          unfold AgC
          first | (simp; done) | (simp; omega) | (simp_all; done) | (simp_all; omega)
      have s0F : (s = 0) = False := eq_false s0
      have s0b : (s == 0) = false := by simpa using s0
      by_cases s3 : s = 3
      case pos =>
        subst s3
        go_wp2
        all_goals
          go_ret
          refine AgR.mk HD.out _ ?_ HBF.out
          unfold AgC
          first | (simp; done) | (simp; omega) | (simp_all; done) | (simp_all; omega)
      have s3F : (s = 3) = False := eq_false s3
      have s3b : (s == 3) = false := by simpa using s3
      by_cases s1 : s = 1
      case pos =>
        subst s1
        go_wp2
        all_goals
          go_ret
          refine AgR.mk HD.out _ ?_ HBF.out
          unfold AgC
          first | (simp; done) | (simp; omega) | (simp_all; done) | (simp_all; omega)
      have s1F : (s = 1) = False := eq_false s1
      have s1b : (s == 1) = false := by simpa using s1
      go_wp2
      all_goals
        go_ret
        refine AgR.mk HD.out _ ?_ HBF.out
        unfold AgC
        first | (simp; done) | (simp; omega) | (simp_all; done) | (simp_all; omega)
    · go_wp2
      refine ⟨HSD.out.alloc _, ?_⟩
      refine anyS_one 6 (by kernel_rfl) rfl ?_
      go_wp2
      refine ⟨(HSD.out.alloc _).alloc _, ?_⟩
      refine anyS_one 8 (by kernel_rfl) rfl ?_
      go_wp2
      refine ⟨(HSD.out.alloc _).alloc _, ?_⟩
      refine anyS_one 9 (by kernel_rfl) rfl ?_
      go_wp2
      refine ⟨(HSD.out.alloc _).alloc _, ?_⟩
      refine anyS_end (by kernel_rfl) ?_
      have kx : Blk ((u0.alloc (Obj.cells (H2 s' c') 27)).alloc (Obj.cells (H2 s c) 27)) u0.heap.size (H2 s' c') 27 := (Blk.new _ _ _).alloc _
      have ky : Blk ((u0.alloc (Obj.cells (H2 s' c') 27)).alloc (Obj.cells (H2 s c) 27)) (u0.heap.size + 1) (H2 s c) 27 := Blk.newAt _ _ _ 27 (by simp)
      have HK : Hid (Blk ((u0.alloc (Obj.cells (H2 s' c') 27)).alloc (Obj.cells (H2 s c) 27)) w.heap.size (D5 s c s' c' (.slice a ls.length cap)) 31) := (HSD.out.alloc _).alloc _
      have HB2 : Hid (Below w.heap.size w ((u0.alloc (Obj.cells (H2 s' c') 27)).alloc (Obj.cells (H2 s c) 27))) := (HBD.out.alloc HBD.out.size _).alloc (by have := HBD.out.size; simp; omega) _
      obtain ⟨W2, hW2⟩ : ∃ x, ((u0.alloc (Obj.cells (H2 s' c') 27)).alloc (Obj.cells (H2 s c) 27)) = x := ⟨_, rfl⟩
      obtain ⟨g3, hgb⟩ : ∃ x, u0.heap.size + 1 = x := ⟨_, rfl⟩
      obtain ⟨g4, hga⟩ : ∃ x, u0.heap.size = x := ⟨_, rfl⟩
      have HGG : Hid (g3 ≠ g4 ∧ w.heap.size ≤ g3 ∧ w.heap.size ≤ g4) := by have := HBD.out.size; refine ⟨?_, ?_, ?_⟩ <;> omega
      rw [hW2] at kx ky HK HB2 ⊢
      rw [hgb] at ky ⊢
      rw [hga] at kx ⊢
      have K3 : Hid (Blk W2 g3 (H2 s c) 27) := ky
      have K4 : Hid (Blk W2 g4 (H2 s' c') 27) := kx
      clear kx ky hW2 hga hgb HSD HBD HZD
      have c30 := K3.out.cell 0
      have c31 := K3.out.cell 1
      have c40 := K4.out.cell 0
      have c41 := K4.out.cell 1
      simp at c30 c31 c40 c41
      have HBF : Hid _ := HB2.out
      clear HB2 HK K3 K4 HGG
      by_cases e : c = c'
      case neg =>
        have eb : (c != c') = true := by simpa using e
        have HE : Hid (c' < c) := by
          have h1 := HD.out.2.2.2.2.2.1.2
          show c' < c
          omega
        have hE := HE.out
        go_wp2
        all_goals
          go_ret
          refine AgR.mk HD.out _ ?_ HBF.out
          unfold AgC
          first | (simp; done) | (simp; omega) | (simp_all; done) | (simp_all; omega)
      subst e
      have eb : (c != c) = false := by simp
      by_cases s0 : s = 0
      case pos =>
        subst s0
        go_wp2
        all_goals
          go_ret
          refine AgR.mk HD.out _ ?_ HBF.out
          unfold AgC
          first | (simp; done) | (simp; omega) | (simp_all; done) | (simp_all; omega)
      have s0F : (s = 0) = False := eq_false s0
      have s0b : (s == 0) = false := by simpa using s0
      by_cases s3 : s = 3
      case pos =>
        subst s3
        go_wp2
        all_goals
          go_ret
          refine AgR.mk HD.out _ ?_ HBF.out
          unfold AgC
          first | (simp; done) | (simp; omega) | (simp_all; done) | (simp_all; omega)
      have s3F : (s = 3) = False := eq_false s3
      have s3b : (s == 3) = false := by simpa using s3
      by_cases s1 : s = 1
      case pos =>
        subst s1
        go_wp2
        all_goals
          go_ret
          refine AgR.mk HD.out _ ?_ HBF.out
          unfold AgC
          first | (simp; done) | (simp; omega) | (simp_all; done) | (simp_all; omega)
      have s1F : (s = 1) = False := eq_false s1
      have s1b : (s == 1) = false := by simpa using s1
      go_wp2
      all_goals
        go_ret
        refine AgR.mk HD.out _ ?_ HBF.out
        unfold AgC
        first | (simp; done) | (simp; omega) | (simp_all; done) | (simp_all; omega)

set_option maxHeartbeats 6400000 in
theorem agM_c (s c s' c' : Int) (v : Value) (ls : Tri) (w : World) (h : Rt w v ls) :
   Calls Try.prog 17 #[.agg (D5 s c s' c' v)] w (AgR s c s' c' ls w) := by
  have HB : Hid (Below w.heap.size w (w.alloc (Obj.cells (D5 s c s' c' v) 31))) := (Below.refl _ _).alloc (Nat.le_refl _) _
  have HK : Hid (Blk (w.alloc (Obj.cells (D5 s c s' c' v) 31)) w.heap.size (D5 s c s' c' v) 31) := Blk.new _ _ _
  have HR : Hid (∀ W, Below w.heap.size w W → Rt W v ls) := fun W hW => h.below hW
  obtain ⟨a, cap, rfl, -⟩ := h
  obtain ⟨W0, hW0⟩ : ∃ W0, w.alloc (Obj.cells (D5 s c s' c' (.slice a ls.length cap)) 31) = W0 := ⟨_, rfl⟩
  rw [hW0] at HB HK
  go_enter Try.func17, Try.ntmps17
  have HSD : Hid (Blk W0.drew w.heap.size (D5 s c s' c' (.slice a ls.length cap)) 31) := HK.out.drew
  have ne1 : Nonempty (At (fun W => Blk W w.heap.size (D5 s c s' c' (.slice a ls.length cap)) 31)) := ⟨⟨_, HSD.out⟩⟩
  have t0 : ∀ W : At (fun W => Blk W w.heap.size (D5 s c s' c' (.slice a ls.length cap)) 31), W.wd.cell? ⟨w.heap.size, 0, none⟩ = some (.int .i64 s) := fun W => by rw [W.ok.cell 0]; rfl
  have t1 : ∀ W : At (fun W => Blk W w.heap.size (D5 s c s' c' (.slice a ls.length cap)) 31), W.wd.cell? ⟨w.heap.size, 1, none⟩ = some (.int .i64 c) := fun W => by rw [W.ok.cell 1]; rfl
  have t2 : ∀ W : At (fun W => Blk W w.heap.size (D5 s c s' c' (.slice a ls.length cap)) 31), W.wd.cell? ⟨w.heap.size, 2, none⟩ = some (.int .i64 s') := fun W => by rw [W.ok.cell 2]; rfl
  have t3 : ∀ W : At (fun W => Blk W w.heap.size (D5 s c s' c' (.slice a ls.length cap)) 31), W.wd.cell? ⟨w.heap.size, 3, none⟩ = some (.int .i64 c') := fun W => by rw [W.ok.cell 3]; rfl
  go_wp2
  refine region_anyS (fun W => Blk W w.heap.size (D5 s c s' c' (.slice a ls.length cap)) 31) (by kernel_rfl) ?_
  refine anyS_quiet [true, true, true, true, true, true, false, false, false, false] 4 rfl (by kernel_rfl) (fun _ _ _ _ _ h => h) HSD.out ?_
  simp only [selT]
  repeat (go_big_quiet_step (fail))
  refine wpQuiet_nil ?_
  clear t0 t1 t2 t3 ne1 HK
  have HBD : Hid (Below w.heap.size w W0.drew) := HB.out.drew
  obtain ⟨u0, hu0⟩ : ∃ x, W0.drew = x := ⟨_, rfl⟩
  have HZD : Hid (W0.drew.heap.size = W0.heap.size) := rfl
  rw [hu0] at HSD HBD HZD ⊢
  clear hu0
  refine anyS_two 6 7 (by kernel_rfl) rfl rfl ?_ ?_
  · go_wp2
    refine ⟨HSD.out.alloc _, ?_⟩
    refine anyS_one 7 (by kernel_rfl) rfl ?_
    go_wp2
    refine ⟨(HSD.out.alloc _).alloc _, ?_⟩
    refine anyS_one 8 (by kernel_rfl) rfl ?_
    go_wp2
    refine ⟨(HSD.out.alloc _).alloc _, ?_⟩
    refine anyS_one 9 (by kernel_rfl) rfl ?_
    go_wp2
    refine ⟨(HSD.out.alloc _).alloc _, ?_⟩
    refine anyS_end (by kernel_rfl) ?_
    have kx : Blk ((u0.alloc (Obj.cells (H2 s c) 27)).alloc (Obj.cells (H2 s' c') 27)) u0.heap.size (H2 s c) 27 := (Blk.new _ _ _).alloc _
    have ky : Blk ((u0.alloc (Obj.cells (H2 s c) 27)).alloc (Obj.cells (H2 s' c') 27)) (u0.heap.size + 1) (H2 s' c') 27 := Blk.newAt _ _ _ 27 (by simp)
    have HK : Hid (Blk ((u0.alloc (Obj.cells (H2 s c) 27)).alloc (Obj.cells (H2 s' c') 27)) w.heap.size (D5 s c s' c' (.slice a ls.length cap)) 31) := (HSD.out.alloc _).alloc _
    have HB2 : Hid (Below w.heap.size w ((u0.alloc (Obj.cells (H2 s c) 27)).alloc (Obj.cells (H2 s' c') 27))) := (HBD.out.alloc HBD.out.size _).alloc (by have := HBD.out.size; simp; omega) _
    obtain ⟨W2, hW2⟩ : ∃ x, ((u0.alloc (Obj.cells (H2 s c) 27)).alloc (Obj.cells (H2 s' c') 27)) = x := ⟨_, rfl⟩
    obtain ⟨g4, hgb⟩ : ∃ x, u0.heap.size + 1 = x := ⟨_, rfl⟩
    obtain ⟨g3, hga⟩ : ∃ x, u0.heap.size = x := ⟨_, rfl⟩
    have HGG : Hid (g3 ≠ g4 ∧ w.heap.size ≤ g3 ∧ w.heap.size ≤ g4) := by have := HBD.out.size; refine ⟨?_, ?_, ?_⟩ <;> omega
    rw [hW2] at kx ky HK HB2 ⊢
    rw [hgb] at ky ⊢
    rw [hga] at kx ⊢
    have K3 : Hid (Blk W2 g3 (H2 s c) 27) := kx
    have K4 : Hid (Blk W2 g4 (H2 s' c') 27) := ky
    clear kx ky hW2 hga hgb HSD HBD HZD
    have c0 := HK.out.cell 0
    have c1 := HK.out.cell 1
    have c2 := HK.out.cell 2
    have c3 := HK.out.cell 3
    have c4 := HK.out.cell 4
    simp at c0 c1 c2 c3 c4
    go_wp2_with (fail)
    refine (okM_c s c s' c' _ ls W2 (HR.out _ HB2.out)).mono ?_
    rintro e w3 ⟨r, rfl, hr, b3⟩
    have HBF : Hid (Below w.heap.size w w3) := belowCall HB2.out b3 HB2.out.size
    have c30 := (K3.out.below b3 K3.out.lt).cell 0
    have c31 := (K3.out.below b3 K3.out.lt).cell 1
    have c40 := (K4.out.below b3 K4.out.lt).cell 0
    have c41 := (K4.out.below b3 K4.out.lt).cell 1
    simp at c30 c31 c40 c41
    clear HB2 HK K3 K4 HGG HR b3 c0 c1 c2 c3 c4
    cases r with
    | false =>
      have HN : Hid (¬ AgP s c s' c' ls) := fun h => by have := hr.2 h.1; cases this
      go_wp2
      go_ret
      exact AgR.no HN.out HBF.out
    | true =>
      have HD : Hid (DOk s c s' c' ls) := hr.1 rfl
      clear hr
      by_cases e1 : s = 1 ∧ s' = 0
      case pos =>
        obtain ⟨rfl, rfl⟩ := e1
        go_wp2
        all_goals
          go_ret
          refine AgR.mk HD.out _ ?_ HBF.out
          unfold AgC
          first | (simp; done) | (simp; omega) | (simp_all; done) | (simp_all; omega)
      have e1b : (s == 1 && s' == 0) = false := by simpa using e1
      by_cases e : c = c'
      case neg =>
        have eb : (c != c') = true := by simpa using e
        go_wp2
        all_goals
          go_ret
          refine AgR.mk HD.out _ ?_ HBF.out
          unfold AgC
          first | (simp; done) | (simp; omega) | (simp_all; done) | (simp_all; omega)
      subst e
      have eb : (c != c) = false := by simp
      go_wp2
      all_goals
        go_ret
        refine AgR.mk HD.out _ ?_ HBF.out
        unfold AgC
        first | (simp; done) | (simp; omega) | (simp_all; done) | (simp_all; omega)
  · go_wp2
    refine ⟨HSD.out.alloc _, ?_⟩
    refine anyS_one 6 (by kernel_rfl) rfl ?_
    go_wp2
    refine ⟨(HSD.out.alloc _).alloc _, ?_⟩
    refine anyS_one 8 (by kernel_rfl) rfl ?_
    go_wp2
    refine ⟨(HSD.out.alloc _).alloc _, ?_⟩
    refine anyS_one 9 (by kernel_rfl) rfl ?_
    go_wp2
    refine ⟨(HSD.out.alloc _).alloc _, ?_⟩
    refine anyS_end (by kernel_rfl) ?_
    have kx : Blk ((u0.alloc (Obj.cells (H2 s' c') 27)).alloc (Obj.cells (H2 s c) 27)) u0.heap.size (H2 s' c') 27 := (Blk.new _ _ _).alloc _
    have ky : Blk ((u0.alloc (Obj.cells (H2 s' c') 27)).alloc (Obj.cells (H2 s c) 27)) (u0.heap.size + 1) (H2 s c) 27 := Blk.newAt _ _ _ 27 (by simp)
    have HK : Hid (Blk ((u0.alloc (Obj.cells (H2 s' c') 27)).alloc (Obj.cells (H2 s c) 27)) w.heap.size (D5 s c s' c' (.slice a ls.length cap)) 31) := (HSD.out.alloc _).alloc _
    have HB2 : Hid (Below w.heap.size w ((u0.alloc (Obj.cells (H2 s' c') 27)).alloc (Obj.cells (H2 s c) 27))) := (HBD.out.alloc HBD.out.size _).alloc (by have := HBD.out.size; simp; omega) _
    obtain ⟨W2, hW2⟩ : ∃ x, ((u0.alloc (Obj.cells (H2 s' c') 27)).alloc (Obj.cells (H2 s c) 27)) = x := ⟨_, rfl⟩
    obtain ⟨g3, hgb⟩ : ∃ x, u0.heap.size + 1 = x := ⟨_, rfl⟩
    obtain ⟨g4, hga⟩ : ∃ x, u0.heap.size = x := ⟨_, rfl⟩
    have HGG : Hid (g3 ≠ g4 ∧ w.heap.size ≤ g3 ∧ w.heap.size ≤ g4) := by have := HBD.out.size; refine ⟨?_, ?_, ?_⟩ <;> omega
    rw [hW2] at kx ky HK HB2 ⊢
    rw [hgb] at ky ⊢
    rw [hga] at kx ⊢
    have K3 : Hid (Blk W2 g3 (H2 s c) 27) := ky
    have K4 : Hid (Blk W2 g4 (H2 s' c') 27) := kx
    clear kx ky hW2 hga hgb HSD HBD HZD
    have c0 := HK.out.cell 0
    have c1 := HK.out.cell 1
    have c2 := HK.out.cell 2
    have c3 := HK.out.cell 3
    have c4 := HK.out.cell 4
    simp at c0 c1 c2 c3 c4
    go_wp2_with (fail)
    refine (okM_c s c s' c' _ ls W2 (HR.out _ HB2.out)).mono ?_
    rintro e w3 ⟨r, rfl, hr, b3⟩
    have HBF : Hid (Below w.heap.size w w3) := belowCall HB2.out b3 HB2.out.size
    have c30 := (K3.out.below b3 K3.out.lt).cell 0
    have c31 := (K3.out.below b3 K3.out.lt).cell 1
    have c40 := (K4.out.below b3 K4.out.lt).cell 0
    have c41 := (K4.out.below b3 K4.out.lt).cell 1
    simp at c30 c31 c40 c41
    clear HB2 HK K3 K4 HGG HR b3 c0 c1 c2 c3 c4
    cases r with
    | false =>
      have HN : Hid (¬ AgP s c s' c' ls) := fun h => by have := hr.2 h.1; cases this
      go_wp2
      go_ret
      exact AgR.no HN.out HBF.out
    | true =>
      have HD : Hid (DOk s c s' c' ls) := hr.1 rfl
      clear hr
      by_cases e1 : s = 1 ∧ s' = 0
      case pos =>
        obtain ⟨rfl, rfl⟩ := e1
        go_wp2
        all_goals
          go_ret
          refine AgR.mk HD.out _ ?_ HBF.out
          unfold AgC
          first | (simp; done) | (simp; omega) | (simp_all; done) | (simp_all; omega)
      have e1b : (s == 1 && s' == 0) = false := by simpa using e1
      by_cases e : c = c'
      case neg =>
        have eb : (c != c') = true := by simpa using e
        go_wp2
        all_goals
          go_ret
          refine AgR.mk HD.out _ ?_ HBF.out
          unfold AgC
          first | (simp; done) | (simp; omega) | (simp_all; done) | (simp_all; omega)
      subst e
      have eb : (c != c) = false := by simp
      go_wp2
      all_goals
        go_ret
        refine AgR.mk HD.out _ ?_ HBF.out
        unfold AgC
        first | (simp; done) | (simp; omega) | (simp_all; done) | (simp_all; omega)
end Go.Proofs.Ytljejjfhlpjlfaa
