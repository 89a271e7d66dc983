/- The program's turnHalf; no condition. -/
import Derived.Test.YtljejjfhlpjlfaaTuA
import Derived.Test.YtljejjfhlpjlfaaMixC
namespace Go.Proofs.Ytljejjfhlpjlfaa
open Go.RowKit Go.ChangeShapes Go.WideShapes Go.ChangeAt
set_option linter.unusedVariables false
set_option linter.unusedSimpArgs false
set_option maxRecDepth 8000

set_option maxHeartbeats 12800000 in
theorem turn_c (st ca hf ev x y z : Int) (c : Nat) (w : World) (hc : w.heap[c]? = some (.chan 1 #[] false 0 0 false)) (hh0 : 0 ≤ hf) (hh1 : hf ≤ 1) (hca : 0 ≤ ca) (hca2 : ca ≤ 1000) (hm : (y = 0 ∧ z = 0 ∧ 1 ≤ ev ∧ ev ≤ 4) ∨ (ev = 5 ∧ 1 ≤ y ∧ y ≤ 4)) :
    Calls Try.prog 70 #[.agg (H2 st ca), .agg (C5 hf ev x y z), .chan (some c)] w (TuR st ca hf ev (x, y, z) c w) := by
  have hlt : c < w.heap.size := by
    by_cases hlt : c < w.heap.size
    · exact hlt
    · rw [Array.getElem?_eq_none (by omega)] at hc; cases hc
  obtain ⟨HR, hHR⟩ : ∃ H : Nat → Array Oper → Code, ∀ id ops, H id ops = Code.region id ops false := ⟨fun id ops => .region id ops false, fun _ _ => rfl⟩
  have HH : Hid (∀ id ops, HR id ops = Code.region id ops false) := hHR
  clear hHR
  refine calls_of_wp_builtin Try.func70 rfl ?_
  simp only [Try.ntmps70, List.size_toArray, List.length_cons, List.length_nil, Nat.reduceAdd, Nat.reduceSub, Array.replicate_succ, Array.replicate_zero, List.push_toArray, List.append_toArray, List.nil_append, List.cons_append]
  obtain ⟨W0, hW0⟩ : ∃ W0, ((w.alloc (Obj.cells (H2 st ca) 27)).alloc (Obj.cells (C5 hf ev x y z) 87)).alloc (Obj.cells (H2 0 0) 27) = W0 := ⟨_, rfl⟩
  have z0 : W0.heap.size = w.heap.size + 1 + 1 + 1 := by rw [← hW0]; simp
  have k0 : Blk W0 w.heap.size (H2 st ca) 27 := by rw [← hW0]; exact ((Blk.new _ _ _).alloc _).alloc _
  have k1 : Blk W0 (w.heap.size + 1) (C5 hf ev x y z) 87 := by rw [← hW0]; exact (Blk.newAt _ (w.heap.size + 1) _ 87 (by simp)).alloc _
  have k2 : Blk W0 (w.heap.size + 1 + 1) (H2 0 0) 27 := by rw [← hW0]; exact Blk.newAt _ (w.heap.size + 1 + 1) _ 27 (by simp)
  have kg : Below w.heap.size w W0 := by rw [← hW0]; exact (((Below.refl _ _).alloc (Nat.le_refl _) _).alloc (by simp) _).alloc (by simp; omega) _
  have HWK : Hid (Wk w c (W0.drew.alloc (Obj.cells (P3 x y z) 66)) st ca hf ev x y z 0 0 #[] 0) :=
    ⟨⟨kg.os, kg.tape, kg.output, by have := kg.size; simp; omega, fun j hj _ => by rw [Below.heap_alloc _ _ _ (by have := kg.size; simp; omega)]; exact kg.block j hj⟩, k0.drew.alloc _, k1.drew.alloc _, k2.drew.alloc _, Blk.newAt _ _ _ _ (by simp [z0]), by rw [Below.heap_alloc _ _ _ (by have := kg.size; simp; omega)]; exact (kg.block c hlt).trans hc, hlt⟩
  obtain ⟨S, hS⟩ : ∃ S : World → Prop, ∀ W, S W ↔ (Blk W w.heap.size (H2 st ca) 27 ∧ Blk W (w.heap.size + 1) (C5 hf ev x y z) 87) := ⟨_, fun _ => Iff.rfl⟩
  have HSD : Hid (S W0.drew ∧ ∀ o, S (W0.drew.alloc o)) := ⟨(hS _).2 ⟨k0.drew, k1.drew⟩, fun o => (hS _).2 ⟨k0.drew.alloc o, k1.drew.alloc o⟩⟩
  have ne1 : Nonempty (At S) := ⟨⟨_, HSD.out.1⟩⟩
  have y1 : ∀ W : At S, W.wd.cell? ⟨w.heap.size, 1, none⟩ = some (.int .i64 ca) := fun W => by rw [((hS _).1 W.ok).1.cell 1]; rfl
  have x0 : ∀ W : At S, W.wd.cell? ⟨w.heap.size + 1, 0, none⟩ = some (.int .i64 hf) := fun W => by rw [((hS _).1 W.ok).2.cell 0]; rfl
  have x2 : ∀ W : At S, W.wd.cell? ⟨w.heap.size + 1, 2, none⟩ = some (.int .i64 x) := fun W => by rw [((hS _).1 W.ok).2.cell 2]; rfl
  have x3 : ∀ W : At S, W.wd.cell? ⟨w.heap.size + 1, 3, none⟩ = some (.int .i64 y) := fun W => by rw [((hS _).1 W.ok).2.cell 3]; rfl
  have x4 : ∀ W : At S, W.wd.cell? ⟨w.heap.size + 1, 4, none⟩ = some (.int .i64 z) := fun W => by rw [((hS _).1 W.ok).2.cell 4]; rfl
  have HZ0 : Hid (W0.drew.heap.size = w.heap.size + 1 + 1 + 1) := z0
  clear k0 k1 k2 kg hc hS z0
  go_wp2
  refine scope_fwd fun c' hc' => ?_
  rw [← HH.out 16]
  go_wp2
  refine region_anyS S (by kernel_rfl) ?_
  refine anyS_quiet [true, true, true, true, true, true, true, true, true, true, true, false, false, false, false] 4 rfl (by kernel_rfl) (fun _ _ _ _ _ h => h) HSD.out.1 ?_
  simp only [selT]
  repeat (go_big_quiet_step (fail))
  refine wpQuiet_nil ?_
  clear y1 x0 x2 x3 x4 ne1 hW0
  obtain ⟨W0', hW0'⟩ : ∃ W, W0.drew = W := ⟨_, rfl⟩
  rw [hW0'] at HSD HWK HZ0 ⊢
  clear hW0'
  refine anyS_one 11 (by kernel_rfl) rfl ?_
  go_wp2
  refine ⟨HSD.out.2 _, ?_⟩
  refine anyS_one 12 (by kernel_rfl) rfl ?_
  go_wp2
  refine ⟨HSD.out.2 _, ?_⟩
  refine anyS_one 13 (by kernel_rfl) rfl ?_
  go_wp2
  refine ⟨HSD.out.2 _, ?_⟩
  refine anyS_one 14 (by kernel_rfl) rfl ?_
  go_wp2
  refine ⟨HSD.out.2 _, ?_⟩
  refine anyS_end (by kernel_rfl) ?_
  rw [HZ0.out]
  obtain ⟨W1, hW1⟩ : ∃ W, W0'.alloc (Obj.cells (P3 x y z) 66) = W := ⟨_, rfl⟩
  rw [hW1] at HWK ⊢
  clear hW1 HSD HZ0
  have c00 := HWK.out.k0.cell 0
  have c01 := HWK.out.k0.cell 1
  have c10 := HWK.out.k1.cell 0
  have c11 := HWK.out.k1.cell 1
  have c31 := HWK.out.k3.cell 1
  have c32 := HWK.out.k3.cell 2
  have fz0 := HWK.out.k0.frozen 0
  have fz1 := HWK.out.k0.frozen 1
  simp at c00 c01 c10 c11 c31 c32

  rcases hm with hm | hm
  · obtain ⟨rfl, rfl, hm1, hm2⟩ := hm
    by_cases v1 : ev = 1
    case pos =>
      subst v1
      by_cases s0 : st = 0
      case pos =>
        subst s0
        by_cases p : ca < 1000
        case pos =>
          have HT : Hid (turnH 0 ca hf 1 (x, 0, 0) = (1, ca + 1, true, some (1 - hf, 1, ca + 1))) := by show turnH _ _ _ _ _ = _; simp [turnH, p]
          have H1 : Hid (Wk w c (W1.setCell ⟨w.heap.size, 1, none⟩ (.int .i64 (ca + 1))) 0 (ca + 1) hf 1 x 0 0 0 0 #[] 0) := HWK.out.ca _
          clear HWK
          go_wp2
          refine wp_goto ?_
          simp only [Exit.inBlock, Exit.then]
          refine ⟨_, by rw [hc'.out]; rfl, ?_⟩
          rw [← HH.out 24]
          have H2 : Hid (Wk w c ((W1.setCell ⟨w.heap.size, 1, none⟩ (.int .i64 (ca + 1))).setCell ⟨w.heap.size, 0, none⟩ (.int .i64 1)) 1 (ca + 1) hf 1 x 0 0 0 0 #[] 0) := H1.out.st 1
          obtain ⟨W2, hW2⟩ : ∃ W, (W1.setCell ⟨w.heap.size, 1, none⟩ (.int .i64 (ca + 1))).setCell ⟨w.heap.size, 0, none⟩ (.int .i64 1) = W := ⟨_, rfl⟩
          rw [hW2] at H2
          have HN2 : Hid ((W1.setCell ⟨w.heap.size, 1, none⟩ (.int .i64 (ca + 1))).setCell ⟨w.heap.size, 0, none⟩ (.int .i64 1) = W2) := hW2
          clear H1 hW2
          go_wp2
          rw [HN2.out]
          clear HN2
          rw [HH.out 24]
          refine region_comm 5 _ rfl rfl ?_
          simp only [List.take]
          have d0 := H2.out.k0.cell 0
          have d1 := H2.out.k0.cell 1
          have d2 := H2.out.k3.cell 2
          simp at d0 d1 d2
          go_wp2
          refine ⟨rfl, undef, _, fun b k cs rest => step_send rfl rfl rfl rfl H2.out.ch (by decide), ?_⟩
          simp only [List.drop]
          refine wpList_nil ?_
          clear d0 d1 d2
          have H3 : Hid (Wk w c (W2.setChan c 1 #[.agg (P3 (1 - hf) 1 (ca + 1))] false 1 0 false) 1 (ca + 1) hf 1 x 0 0 0 0 #[.agg (P3 (1 - hf) 1 (ca + 1))] 1) := H2.out.snd _ _
          obtain ⟨W3, hW3⟩ : ∃ W, W2.setChan c 1 #[.agg (P3 (1 - hf) 1 (ca + 1))] false 1 0 false = W := ⟨_, rfl⟩
          rw [hW3] at H3
          have HNW3 : Hid (W2.setChan c 1 #[.agg (P3 (1 - hf) 1 (ca + 1))] false 1 0 false = W3) := hW3
          clear H2 hW3
          show Exit.then _ _ Exit.normal _ (W2.setChan c 1 #[.agg (P3 (1 - hf) 1 (ca + 1))] false 1 0 false)
          rw [HNW3.out]
          clear HNW3
          have d0 := H3.out.k0.cell 0
          have d1 := H3.out.k0.cell 1
          have d2 := H3.out.k1.cell 0
          have e0 := H3.out.k2.cell 0
          have e1 := H3.out.k2.cell 1
          have j0 := H3.out.k2.frozen 0
          have j1 := H3.out.k2.frozen 1
          simp at d0 d1 d2 e0 e1
          have HF : Hid (Wk w c ((W3.setCell ⟨w.heap.size + 1 + 1, 0, none⟩ (.int .i64 1)).setCell ⟨w.heap.size + 1 + 1, 1, none⟩ (.int .i64 (ca + 1))) 1 (ca + 1) hf 1 x 0 0 1 (ca + 1) #[.agg (P3 (1 - hf) 1 (ca + 1))] 1) := H3.out.an 1 (ca + 1)
          clear H3
          go_wp2
          exact HF.out.done 0 ca (some (1 - hf, 1, ca + 1)) true rfl HT.out _ _ _ _ rfl rfl
        have pF : (ca < 1000) = False := eq_false p
        have HT : Hid (turnH 0 ca hf 1 (x, 0, 0) = (0, ca, false, none)) := by show turnH _ _ _ _ _ = _; simp [turnH, p]
        have HD : Hid (Wk w c W1.drew 0 ca hf 1 x 0 0 0 0 #[] 0) := HWK.out.drew
        obtain ⟨S, hS⟩ : ∃ S : World → Prop, ∀ W, S W ↔ (Blk W w.heap.size (H2 0 ca) 27 ∧ Blk W (w.heap.size + 1) (C5 hf 1 x 0 0) 87) := ⟨_, fun _ => Iff.rfl⟩
        have HF : Hid (Wk w c ((W1.drew.setCell ⟨w.heap.size + 1 + 1, 0, none⟩ (.int .i64 0)).setCell ⟨w.heap.size + 1 + 1, 1, none⟩ (.int .i64 ca)) 0 ca hf 1 x 0 0 0 ca #[] 0) := HD.out.an 0 ca
        have HSD : Hid (S W1.drew ∧ S ((W1.drew.setCell ⟨w.heap.size + 1 + 1, 0, none⟩ (.int .i64 0)).setCell ⟨w.heap.size + 1 + 1, 1, none⟩ (.int .i64 ca))) := ⟨(hS _).2 ⟨HD.out.k0, HD.out.k1⟩, (hS _).2 ⟨HF.out.k0, HF.out.k1⟩⟩
        have ne1 : Nonempty (At S) := ⟨⟨_, HSD.out.1⟩⟩
        have t0 : ∀ W : At S, W.wd.cell? ⟨w.heap.size, 0, none⟩ = some (.int .i64 0) := fun W => by rw [((hS _).1 W.ok).1.cell 0]; rfl
        have t1 : ∀ W : At S, W.wd.cell? ⟨w.heap.size, 1, none⟩ = some (.int .i64 ca) := fun W => by rw [((hS _).1 W.ok).1.cell 1]; rfl
        have t2 : ∀ W : At S, W.wd.cell? ⟨w.heap.size + 1, 1, none⟩ = some (.int .i64 1) := fun W => by rw [((hS _).1 W.ok).2.cell 1]; rfl
        clear hS HWK
        go_wp2
        refine region_anyS S (by kernel_rfl) ?_
        refine anyS_quiet [true, true, true, true, true, true, true, true, true, false, false] 2 rfl (by kernel_rfl) (fun _ _ _ _ _ h => h) HSD.out.1 ?_
        simp only [selT]
        repeat (go_big_quiet_step (fail))
        refine wpQuiet_nil ?_
        clear t0 t1 t2 ne1
        obtain ⟨Wd, hWd⟩ : ∃ W, W1.drew = W := ⟨_, rfl⟩
        rw [hWd] at HD HF HSD ⊢
        clear hWd
        have e0 := HD.out.k2.cell 0
        have e1 := HD.out.k2.cell 1
        have j0 := HD.out.k2.frozen 0
        have j1 := HD.out.k2.frozen 1
        simp at e0 e1
        refine anyS_one 9 (by kernel_rfl) rfl ?_
        go_wp2
        refine ⟨HSD.out.2, ?_⟩
        refine anyS_one 10 (by kernel_rfl) rfl ?_
        go_wp2
        refine ⟨HSD.out.2, ?_⟩
        refine anyS_end (by kernel_rfl) ?_
        go_wp2
        exact HF.out.done 0 ca none false rfl HT.out _ _ _ _ rfl rfl
      have s0F : (st = 0) = False := eq_false s0
      have s0b : (st == 0) = false := by simpa using s0
      have s0n : (st != 0) = true := by simpa using s0
      have HT : Hid (turnH st ca hf 1 (x, 0, 0) = (st, ca, false, none)) := by show turnH _ _ _ _ _ = _; simp [turnH, s0]
      have HD : Hid (Wk w c W1.drew st ca hf 1 x 0 0 0 0 #[] 0) := HWK.out.drew
      obtain ⟨S, hS⟩ : ∃ S : World → Prop, ∀ W, S W ↔ (Blk W w.heap.size (H2 st ca) 27 ∧ Blk W (w.heap.size + 1) (C5 hf 1 x 0 0) 87) := ⟨_, fun _ => Iff.rfl⟩
      have HF : Hid (Wk w c ((W1.drew.setCell ⟨w.heap.size + 1 + 1, 0, none⟩ (.int .i64 st)).setCell ⟨w.heap.size + 1 + 1, 1, none⟩ (.int .i64 ca)) st ca hf 1 x 0 0 st ca #[] 0) := HD.out.an st ca
      have HSD : Hid (S W1.drew ∧ S ((W1.drew.setCell ⟨w.heap.size + 1 + 1, 0, none⟩ (.int .i64 st)).setCell ⟨w.heap.size + 1 + 1, 1, none⟩ (.int .i64 ca))) := ⟨(hS _).2 ⟨HD.out.k0, HD.out.k1⟩, (hS _).2 ⟨HF.out.k0, HF.out.k1⟩⟩
      have ne1 : Nonempty (At S) := ⟨⟨_, HSD.out.1⟩⟩
      have t0 : ∀ W : At S, W.wd.cell? ⟨w.heap.size, 0, none⟩ = some (.int .i64 st) := fun W => by rw [((hS _).1 W.ok).1.cell 0]; rfl
      have t1 : ∀ W : At S, W.wd.cell? ⟨w.heap.size, 1, none⟩ = some (.int .i64 ca) := fun W => by rw [((hS _).1 W.ok).1.cell 1]; rfl
      have t2 : ∀ W : At S, W.wd.cell? ⟨w.heap.size + 1, 1, none⟩ = some (.int .i64 1) := fun W => by rw [((hS _).1 W.ok).2.cell 1]; rfl
      clear hS HWK
      go_wp2
      refine region_anyS S (by kernel_rfl) ?_
      refine anyS_quiet [true, true, true, true, true, true, true, true, true, false, false] 2 rfl (by kernel_rfl) (fun _ _ _ _ _ h => h) HSD.out.1 ?_
      simp only [selT]
      repeat (go_big_quiet_step (fail))
      refine wpQuiet_nil ?_
      clear t0 t1 t2 ne1
      obtain ⟨Wd, hWd⟩ : ∃ W, W1.drew = W := ⟨_, rfl⟩
      rw [hWd] at HD HF HSD ⊢
      clear hWd
      have e0 := HD.out.k2.cell 0
      have e1 := HD.out.k2.cell 1
      have j0 := HD.out.k2.frozen 0
      have j1 := HD.out.k2.frozen 1
      simp at e0 e1
      refine anyS_one 9 (by kernel_rfl) rfl ?_
      go_wp2
      refine ⟨HSD.out.2, ?_⟩
      refine anyS_one 10 (by kernel_rfl) rfl ?_
      go_wp2
      refine ⟨HSD.out.2, ?_⟩
      refine anyS_end (by kernel_rfl) ?_
      go_wp2
      exact HF.out.done st ca none false rfl HT.out _ _ _ _ rfl rfl
    by_cases v2 : ev = 2
    case pos =>
      subst v2
      by_cases s2 : st = 2
      case pos =>
        subst s2
        by_cases h1 : hf = 1
        case pos =>
          subst h1
          have HT : Hid (turnH 2 ca 1 2 (x, 0, 0) = (3, ca, true, some (1 - 1, 2, ca))) := by show turnH _ _ _ _ _ = _; simp [turnH]
          go_wp2
          refine wp_goto ?_
          simp only [Exit.inBlock, Exit.then]
          refine ⟨_, by rw [hc'.out]; rfl, ?_⟩
          rw [← HH.out 30]
          have H2 : Hid (Wk w c (W1.setCell ⟨w.heap.size, 0, none⟩ (.int .i64 3)) 3 ca 1 2 x 0 0 0 0 #[] 0) := HWK.out.st 3
          obtain ⟨W2, hW2⟩ : ∃ W, W1.setCell ⟨w.heap.size, 0, none⟩ (.int .i64 3) = W := ⟨_, rfl⟩
          rw [hW2] at H2
          have HN2 : Hid (W1.setCell ⟨w.heap.size, 0, none⟩ (.int .i64 3) = W2) := hW2
          clear HWK hW2
          go_wp2
          rw [HN2.out]
          clear HN2
          rw [HH.out 30]
          refine region_comm 5 _ rfl rfl ?_
          simp only [List.take]
          have d0 := H2.out.k0.cell 0
          have d1 := H2.out.k0.cell 1
          have d2 := H2.out.k3.cell 2
          simp at d0 d1 d2
          go_wp2
          refine ⟨rfl, undef, _, fun b k cs rest => step_send rfl rfl rfl rfl H2.out.ch (by decide), ?_⟩
          simp only [List.drop]
          refine wpList_nil ?_
          clear d0 d1 d2
          have H3 : Hid (Wk w c (W2.setChan c 1 #[.agg (P3 (1 - 1) 2 ca)] false 1 0 false) 3 ca 1 2 x 0 0 0 0 #[.agg (P3 (1 - 1) 2 ca)] 1) := H2.out.snd _ _
          obtain ⟨W3, hW3⟩ : ∃ W, W2.setChan c 1 #[.agg (P3 (1 - 1) 2 ca)] false 1 0 false = W := ⟨_, rfl⟩
          rw [hW3] at H3
          have HNW3 : Hid (W2.setChan c 1 #[.agg (P3 (1 - 1) 2 ca)] false 1 0 false = W3) := hW3
          clear H2 hW3
          show Exit.then _ _ Exit.normal _ (W2.setChan c 1 #[.agg (P3 (1 - 1) 2 ca)] false 1 0 false)
          rw [HNW3.out]
          clear HNW3
          have d0 := H3.out.k0.cell 0
          have d1 := H3.out.k0.cell 1
          have d2 := H3.out.k1.cell 0
          have e0 := H3.out.k2.cell 0
          have e1 := H3.out.k2.cell 1
          have j0 := H3.out.k2.frozen 0
          have j1 := H3.out.k2.frozen 1
          simp at d0 d1 d2 e0 e1
          have HF : Hid (Wk w c ((W3.setCell ⟨w.heap.size + 1 + 1, 0, none⟩ (.int .i64 3)).setCell ⟨w.heap.size + 1 + 1, 1, none⟩ (.int .i64 ca)) 3 ca 1 2 x 0 0 3 ca #[.agg (P3 (1 - 1) 2 ca)] 1) := H3.out.an 3 ca
          clear H3
          go_wp2
          exact HF.out.done 2 ca (some (1 - 1, 2, ca)) true rfl HT.out _ _ _ _ rfl rfl
        obtain rfl : hf = 0 := by omega
        have HT : Hid (turnH 2 ca 0 2 (x, 0, 0) = (3, ca, true, none)) := by show turnH _ _ _ _ _ = _; simp [turnH]
        go_wp2
        refine wp_goto ?_
        simp only [Exit.inBlock, Exit.then]
        refine ⟨_, by rw [hc'.out]; rfl, ?_⟩
        have H2 : Hid (Wk w c (W1.setCell ⟨w.heap.size, 0, none⟩ (.int .i64 3)) 3 ca 0 2 x 0 0 0 0 #[] 0) := HWK.out.st 3
        obtain ⟨W2, hW2⟩ : ∃ W, W1.setCell ⟨w.heap.size, 0, none⟩ (.int .i64 3) = W := ⟨_, rfl⟩
        rw [hW2] at H2
        have HN2 : Hid (W1.setCell ⟨w.heap.size, 0, none⟩ (.int .i64 3) = W2) := hW2
        clear HWK hW2
        have hw2 := HN2.out
        clear HN2
        have d0 := H2.out.k0.cell 0
        have d1 := H2.out.k0.cell 1
        have d2 := H2.out.k1.cell 0
        have e0 := H2.out.k2.cell 0
        have e1 := H2.out.k2.cell 1
        have j0 := H2.out.k2.frozen 0
        have j1 := H2.out.k2.frozen 1
        simp at d0 d1 d2 e0 e1
        have HF : Hid (Wk w c ((W2.setCell ⟨w.heap.size + 1 + 1, 0, none⟩ (.int .i64 3)).setCell ⟨w.heap.size + 1 + 1, 1, none⟩ (.int .i64 ca)) 3 ca 0 2 x 0 0 3 ca #[] 0) := H2.out.an 3 ca
        clear H2
        go_wp2
        exact HF.out.done 2 ca none true rfl HT.out _ _ _ _ rfl rfl
      have s2F : (st = 2) = False := eq_false s2
      have s2b : (st == 2) = false := by simpa using s2
      have s2n : (st != 2) = true := by simpa using s2
      have HT : Hid (turnH st ca hf 2 (x, 0, 0) = (st, ca, false, none)) := by show turnH _ _ _ _ _ = _; simp [turnH, s2]
      have HD : Hid (Wk w c W1.drew st ca hf 2 x 0 0 0 0 #[] 0) := HWK.out.drew
      obtain ⟨S, hS⟩ : ∃ S : World → Prop, ∀ W, S W ↔ (Blk W w.heap.size (H2 st ca) 27 ∧ Blk W (w.heap.size + 1) (C5 hf 2 x 0 0) 87) := ⟨_, fun _ => Iff.rfl⟩
      have HF : Hid (Wk w c ((W1.drew.setCell ⟨w.heap.size + 1 + 1, 0, none⟩ (.int .i64 st)).setCell ⟨w.heap.size + 1 + 1, 1, none⟩ (.int .i64 ca)) st ca hf 2 x 0 0 st ca #[] 0) := HD.out.an st ca
      have HSD : Hid (S W1.drew ∧ S ((W1.drew.setCell ⟨w.heap.size + 1 + 1, 0, none⟩ (.int .i64 st)).setCell ⟨w.heap.size + 1 + 1, 1, none⟩ (.int .i64 ca))) := ⟨(hS _).2 ⟨HD.out.k0, HD.out.k1⟩, (hS _).2 ⟨HF.out.k0, HF.out.k1⟩⟩
      have ne1 : Nonempty (At S) := ⟨⟨_, HSD.out.1⟩⟩
      have t0 : ∀ W : At S, W.wd.cell? ⟨w.heap.size, 0, none⟩ = some (.int .i64 st) := fun W => by rw [((hS _).1 W.ok).1.cell 0]; rfl
      have t1 : ∀ W : At S, W.wd.cell? ⟨w.heap.size, 1, none⟩ = some (.int .i64 ca) := fun W => by rw [((hS _).1 W.ok).1.cell 1]; rfl
      have t2 : ∀ W : At S, W.wd.cell? ⟨w.heap.size + 1, 1, none⟩ = some (.int .i64 2) := fun W => by rw [((hS _).1 W.ok).2.cell 1]; rfl
      clear hS HWK
      go_wp2
      refine region_anyS S (by kernel_rfl) ?_
      refine anyS_quiet [true, true, true, true, true, true, true, true, true, false, false] 2 rfl (by kernel_rfl) (fun _ _ _ _ _ h => h) HSD.out.1 ?_
      simp only [selT]
      repeat (go_big_quiet_step (fail))
      refine wpQuiet_nil ?_
      clear t0 t1 t2 ne1
      obtain ⟨Wd, hWd⟩ : ∃ W, W1.drew = W := ⟨_, rfl⟩
      rw [hWd] at HD HF HSD ⊢
      clear hWd
      have e0 := HD.out.k2.cell 0
      have e1 := HD.out.k2.cell 1
      have j0 := HD.out.k2.frozen 0
      have j1 := HD.out.k2.frozen 1
      simp at e0 e1
      refine anyS_one 9 (by kernel_rfl) rfl ?_
      go_wp2
      refine ⟨HSD.out.2, ?_⟩
      refine anyS_one 10 (by kernel_rfl) rfl ?_
      go_wp2
      refine ⟨HSD.out.2, ?_⟩
      refine anyS_end (by kernel_rfl) ?_
      go_wp2
      exact HF.out.done st ca none false rfl HT.out _ _ _ _ rfl rfl
    by_cases v3 : ev = 3
    case pos =>
      subst v3
      by_cases s0 : st = 0
      case pos =>
        subst s0
        have HT : Hid (turnH 0 ca hf 3 (x, 0, 0) = (0, ca, false, none)) := by show turnH _ _ _ _ _ = _; simp [turnH]
        have HD : Hid (Wk w c W1.drew 0 ca hf 3 x 0 0 0 0 #[] 0) := HWK.out.drew
        obtain ⟨S, hS⟩ : ∃ S : World → Prop, ∀ W, S W ↔ (Blk W w.heap.size (H2 0 ca) 27 ∧ Blk W (w.heap.size + 1) (C5 hf 3 x 0 0) 87) := ⟨_, fun _ => Iff.rfl⟩
        have HF : Hid (Wk w c ((W1.drew.setCell ⟨w.heap.size + 1 + 1, 0, none⟩ (.int .i64 0)).setCell ⟨w.heap.size + 1 + 1, 1, none⟩ (.int .i64 ca)) 0 ca hf 3 x 0 0 0 ca #[] 0) := HD.out.an 0 ca
        have HSD : Hid (S W1.drew ∧ S ((W1.drew.setCell ⟨w.heap.size + 1 + 1, 0, none⟩ (.int .i64 0)).setCell ⟨w.heap.size + 1 + 1, 1, none⟩ (.int .i64 ca))) := ⟨(hS _).2 ⟨HD.out.k0, HD.out.k1⟩, (hS _).2 ⟨HF.out.k0, HF.out.k1⟩⟩
        have ne1 : Nonempty (At S) := ⟨⟨_, HSD.out.1⟩⟩
        have t0 : ∀ W : At S, W.wd.cell? ⟨w.heap.size, 0, none⟩ = some (.int .i64 0) := fun W => by rw [((hS _).1 W.ok).1.cell 0]; rfl
        have t1 : ∀ W : At S, W.wd.cell? ⟨w.heap.size, 1, none⟩ = some (.int .i64 ca) := fun W => by rw [((hS _).1 W.ok).1.cell 1]; rfl
        have t2 : ∀ W : At S, W.wd.cell? ⟨w.heap.size + 1, 1, none⟩ = some (.int .i64 3) := fun W => by rw [((hS _).1 W.ok).2.cell 1]; rfl
        clear hS HWK
        go_wp2
        refine region_anyS S (by kernel_rfl) ?_
        refine anyS_quiet [true, true, true, true, true, true, true, true, true, false, false] 2 rfl (by kernel_rfl) (fun _ _ _ _ _ h => h) HSD.out.1 ?_
        simp only [selT]
        repeat (go_big_quiet_step (fail))
        refine wpQuiet_nil ?_
        clear t0 t1 t2 ne1
        obtain ⟨Wd, hWd⟩ : ∃ W, W1.drew = W := ⟨_, rfl⟩
        rw [hWd] at HD HF HSD ⊢
        clear hWd
        have e0 := HD.out.k2.cell 0
        have e1 := HD.out.k2.cell 1
        have j0 := HD.out.k2.frozen 0
        have j1 := HD.out.k2.frozen 1
        simp at e0 e1
        refine anyS_one 9 (by kernel_rfl) rfl ?_
        go_wp2
        refine ⟨HSD.out.2, ?_⟩
        refine anyS_one 10 (by kernel_rfl) rfl ?_
        go_wp2
        refine ⟨HSD.out.2, ?_⟩
        refine anyS_end (by kernel_rfl) ?_
        go_wp2
        exact HF.out.done 0 ca none false rfl HT.out _ _ _ _ rfl rfl
      have s0F : (st = 0) = False := eq_false s0
      have s0b : (st == 0) = false := by simpa using s0
      have s0n : (st != 0) = true := by simpa using s0
      by_cases s4 : st = 4
      case pos =>
        subst s4
        have HT : Hid (turnH 4 ca hf 3 (x, 0, 0) = (4, ca, false, none)) := by show turnH _ _ _ _ _ = _; simp [turnH]
        have HD : Hid (Wk w c W1.drew 4 ca hf 3 x 0 0 0 0 #[] 0) := HWK.out.drew
        obtain ⟨S, hS⟩ : ∃ S : World → Prop, ∀ W, S W ↔ (Blk W w.heap.size (H2 4 ca) 27 ∧ Blk W (w.heap.size + 1) (C5 hf 3 x 0 0) 87) := ⟨_, fun _ => Iff.rfl⟩
        have HF : Hid (Wk w c ((W1.drew.setCell ⟨w.heap.size + 1 + 1, 0, none⟩ (.int .i64 4)).setCell ⟨w.heap.size + 1 + 1, 1, none⟩ (.int .i64 ca)) 4 ca hf 3 x 0 0 4 ca #[] 0) := HD.out.an 4 ca
        have HSD : Hid (S W1.drew ∧ S ((W1.drew.setCell ⟨w.heap.size + 1 + 1, 0, none⟩ (.int .i64 4)).setCell ⟨w.heap.size + 1 + 1, 1, none⟩ (.int .i64 ca))) := ⟨(hS _).2 ⟨HD.out.k0, HD.out.k1⟩, (hS _).2 ⟨HF.out.k0, HF.out.k1⟩⟩
        have ne1 : Nonempty (At S) := ⟨⟨_, HSD.out.1⟩⟩
        have t0 : ∀ W : At S, W.wd.cell? ⟨w.heap.size, 0, none⟩ = some (.int .i64 4) := fun W => by rw [((hS _).1 W.ok).1.cell 0]; rfl
        have t1 : ∀ W : At S, W.wd.cell? ⟨w.heap.size, 1, none⟩ = some (.int .i64 ca) := fun W => by rw [((hS _).1 W.ok).1.cell 1]; rfl
        have t2 : ∀ W : At S, W.wd.cell? ⟨w.heap.size + 1, 1, none⟩ = some (.int .i64 3) := fun W => by rw [((hS _).1 W.ok).2.cell 1]; rfl
        clear hS HWK
        go_wp2
        refine region_anyS S (by kernel_rfl) ?_
        refine anyS_quiet [true, true, true, true, true, true, true, true, true, false, false] 2 rfl (by kernel_rfl) (fun _ _ _ _ _ h => h) HSD.out.1 ?_
        simp only [selT]
        repeat (go_big_quiet_step (fail))
        refine wpQuiet_nil ?_
        clear t0 t1 t2 ne1
        obtain ⟨Wd, hWd⟩ : ∃ W, W1.drew = W := ⟨_, rfl⟩
        rw [hWd] at HD HF HSD ⊢
        clear hWd
        have e0 := HD.out.k2.cell 0
        have e1 := HD.out.k2.cell 1
        have j0 := HD.out.k2.frozen 0
        have j1 := HD.out.k2.frozen 1
        simp at e0 e1
        refine anyS_one 9 (by kernel_rfl) rfl ?_
        go_wp2
        refine ⟨HSD.out.2, ?_⟩
        refine anyS_one 10 (by kernel_rfl) rfl ?_
        go_wp2
        refine ⟨HSD.out.2, ?_⟩
        refine anyS_end (by kernel_rfl) ?_
        go_wp2
        exact HF.out.done 4 ca none false rfl HT.out _ _ _ _ rfl rfl
      have s4F : (st = 4) = False := eq_false s4
      have s4b : (st == 4) = false := by simpa using s4
      have s4n : (st != 4) = true := by simpa using s4
      have HT : Hid (turnH st ca hf 3 (x, 0, 0) = (4, ca, true, some (1 - hf, 3, ca))) := by show turnH _ _ _ _ _ = _; simp [turnH, s0, s4]
      go_wp2
      refine wp_goto ?_
      simp only [Exit.inBlock, Exit.then]
      refine ⟨_, by rw [hc'.out]; rfl, ?_⟩
      rw [← HH.out 33]
      have H2 : Hid (Wk w c (W1.setCell ⟨w.heap.size, 0, none⟩ (.int .i64 4)) 4 ca hf 3 x 0 0 0 0 #[] 0) := HWK.out.st 4
      obtain ⟨W2, hW2⟩ : ∃ W, W1.setCell ⟨w.heap.size, 0, none⟩ (.int .i64 4) = W := ⟨_, rfl⟩
      rw [hW2] at H2
      have HN2 : Hid (W1.setCell ⟨w.heap.size, 0, none⟩ (.int .i64 4) = W2) := hW2
      clear HWK hW2
      go_wp2
      rw [HN2.out]
      clear HN2
      rw [HH.out 33]
      refine region_comm 5 _ rfl rfl ?_
      simp only [List.take]
      have d0 := H2.out.k0.cell 0
      have d1 := H2.out.k0.cell 1
      have d2 := H2.out.k3.cell 2
      simp at d0 d1 d2
      go_wp2
      refine ⟨rfl, undef, _, fun b k cs rest => step_send rfl rfl rfl rfl H2.out.ch (by decide), ?_⟩
      simp only [List.drop]
      refine wpList_nil ?_
      clear d0 d1 d2
      have H3 : Hid (Wk w c (W2.setChan c 1 #[.agg (P3 (1 - hf) 3 ca)] false 1 0 false) 4 ca hf 3 x 0 0 0 0 #[.agg (P3 (1 - hf) 3 ca)] 1) := H2.out.snd _ _
      obtain ⟨W3, hW3⟩ : ∃ W, W2.setChan c 1 #[.agg (P3 (1 - hf) 3 ca)] false 1 0 false = W := ⟨_, rfl⟩
      rw [hW3] at H3
      have HNW3 : Hid (W2.setChan c 1 #[.agg (P3 (1 - hf) 3 ca)] false 1 0 false = W3) := hW3
      clear H2 hW3
      show Exit.then _ _ Exit.normal _ (W2.setChan c 1 #[.agg (P3 (1 - hf) 3 ca)] false 1 0 false)
      rw [HNW3.out]
      clear HNW3
      have d0 := H3.out.k0.cell 0
      have d1 := H3.out.k0.cell 1
      have d2 := H3.out.k1.cell 0
      have e0 := H3.out.k2.cell 0
      have e1 := H3.out.k2.cell 1
      have j0 := H3.out.k2.frozen 0
      have j1 := H3.out.k2.frozen 1
      simp at d0 d1 d2 e0 e1
      have HF : Hid (Wk w c ((W3.setCell ⟨w.heap.size + 1 + 1, 0, none⟩ (.int .i64 4)).setCell ⟨w.heap.size + 1 + 1, 1, none⟩ (.int .i64 ca)) 4 ca hf 3 x 0 0 4 ca #[.agg (P3 (1 - hf) 3 ca)] 1) := H3.out.an 4 ca
      clear H3
      go_wp2
      exact HF.out.done st ca (some (1 - hf, 3, ca)) true rfl HT.out _ _ _ _ rfl rfl
    obtain rfl : ev = 4 := by omega
    by_cases s1 : st = 1
    case pos =>
      subst s1
      have HT : Hid (turnH 1 ca hf 4 (x, 0, 0) = (1, ca, true, some (1 - hf, 1, ca))) := by show turnH _ _ _ _ _ = _; simp [turnH]
      go_wp2
      refine wp_goto ?_
      simp only [Exit.inBlock, Exit.then]
      refine ⟨_, by rw [hc'.out]; rfl, ?_⟩
      rw [← HH.out 24]
      have H2 : Hid (Wk w c (W1.setCell ⟨w.heap.size, 0, none⟩ (.int .i64 1)) 1 ca hf 4 x 0 0 0 0 #[] 0) := HWK.out.st 1
      obtain ⟨W2, hW2⟩ : ∃ W, W1.setCell ⟨w.heap.size, 0, none⟩ (.int .i64 1) = W := ⟨_, rfl⟩
      rw [hW2] at H2
      have HN2 : Hid (W1.setCell ⟨w.heap.size, 0, none⟩ (.int .i64 1) = W2) := hW2
      clear HWK hW2
      go_wp2
      rw [HN2.out]
      clear HN2
      rw [HH.out 24]
      refine region_comm 5 _ rfl rfl ?_
      simp only [List.take]
      have d0 := H2.out.k0.cell 0
      have d1 := H2.out.k0.cell 1
      have d2 := H2.out.k3.cell 2
      simp at d0 d1 d2
      go_wp2
      refine ⟨rfl, undef, _, fun b k cs rest => step_send rfl rfl rfl rfl H2.out.ch (by decide), ?_⟩
      simp only [List.drop]
      refine wpList_nil ?_
      clear d0 d1 d2
      have H3 : Hid (Wk w c (W2.setChan c 1 #[.agg (P3 (1 - hf) 1 ca)] false 1 0 false) 1 ca hf 4 x 0 0 0 0 #[.agg (P3 (1 - hf) 1 ca)] 1) := H2.out.snd _ _
      obtain ⟨W3, hW3⟩ : ∃ W, W2.setChan c 1 #[.agg (P3 (1 - hf) 1 ca)] false 1 0 false = W := ⟨_, rfl⟩
      rw [hW3] at H3
      have HNW3 : Hid (W2.setChan c 1 #[.agg (P3 (1 - hf) 1 ca)] false 1 0 false = W3) := hW3
      clear H2 hW3
      show Exit.then _ _ Exit.normal _ (W2.setChan c 1 #[.agg (P3 (1 - hf) 1 ca)] false 1 0 false)
      rw [HNW3.out]
      clear HNW3
      have d0 := H3.out.k0.cell 0
      have d1 := H3.out.k0.cell 1
      have d2 := H3.out.k1.cell 0
      have e0 := H3.out.k2.cell 0
      have e1 := H3.out.k2.cell 1
      have j0 := H3.out.k2.frozen 0
      have j1 := H3.out.k2.frozen 1
      simp at d0 d1 d2 e0 e1
      have HF : Hid (Wk w c ((W3.setCell ⟨w.heap.size + 1 + 1, 0, none⟩ (.int .i64 1)).setCell ⟨w.heap.size + 1 + 1, 1, none⟩ (.int .i64 ca)) 1 ca hf 4 x 0 0 1 ca #[.agg (P3 (1 - hf) 1 ca)] 1) := H3.out.an 1 ca
      clear H3
      go_wp2
      exact HF.out.done 1 ca (some (1 - hf, 1, ca)) true rfl HT.out _ _ _ _ rfl rfl
    have s1F : (st = 1) = False := eq_false s1
    have s1b : (st == 1) = false := by simpa using s1
    have s1n : (st != 1) = true := by simpa using s1
    by_cases s4 : st = 4
    case pos =>
      subst s4
      have HT : Hid (turnH 4 ca hf 4 (x, 0, 0) = (4, ca, true, some (1 - hf, 3, ca))) := by show turnH _ _ _ _ _ = _; simp [turnH]
      go_wp2
      refine wp_goto ?_
      simp only [Exit.inBlock, Exit.then]
      refine ⟨_, by rw [hc'.out]; rfl, ?_⟩
      rw [← HH.out 33]
      have H2 : Hid (Wk w c (W1.setCell ⟨w.heap.size, 0, none⟩ (.int .i64 4)) 4 ca hf 4 x 0 0 0 0 #[] 0) := HWK.out.st 4
      obtain ⟨W2, hW2⟩ : ∃ W, W1.setCell ⟨w.heap.size, 0, none⟩ (.int .i64 4) = W := ⟨_, rfl⟩
      rw [hW2] at H2
      have HN2 : Hid (W1.setCell ⟨w.heap.size, 0, none⟩ (.int .i64 4) = W2) := hW2
      clear HWK hW2
      go_wp2
      rw [HN2.out]
      clear HN2
      rw [HH.out 33]
      refine region_comm 5 _ rfl rfl ?_
      simp only [List.take]
      have d0 := H2.out.k0.cell 0
      have d1 := H2.out.k0.cell 1
      have d2 := H2.out.k3.cell 2
      simp at d0 d1 d2
      go_wp2
      refine ⟨rfl, undef, _, fun b k cs rest => step_send rfl rfl rfl rfl H2.out.ch (by decide), ?_⟩
      simp only [List.drop]
      refine wpList_nil ?_
      clear d0 d1 d2
      have H3 : Hid (Wk w c (W2.setChan c 1 #[.agg (P3 (1 - hf) 3 ca)] false 1 0 false) 4 ca hf 4 x 0 0 0 0 #[.agg (P3 (1 - hf) 3 ca)] 1) := H2.out.snd _ _
      obtain ⟨W3, hW3⟩ : ∃ W, W2.setChan c 1 #[.agg (P3 (1 - hf) 3 ca)] false 1 0 false = W := ⟨_, rfl⟩
      rw [hW3] at H3
      have HNW3 : Hid (W2.setChan c 1 #[.agg (P3 (1 - hf) 3 ca)] false 1 0 false = W3) := hW3
      clear H2 hW3
      show Exit.then _ _ Exit.normal _ (W2.setChan c 1 #[.agg (P3 (1 - hf) 3 ca)] false 1 0 false)
      rw [HNW3.out]
      clear HNW3
      have d0 := H3.out.k0.cell 0
      have d1 := H3.out.k0.cell 1
      have d2 := H3.out.k1.cell 0
      have e0 := H3.out.k2.cell 0
      have e1 := H3.out.k2.cell 1
      have j0 := H3.out.k2.frozen 0
      have j1 := H3.out.k2.frozen 1
      simp at d0 d1 d2 e0 e1
      have HF : Hid (Wk w c ((W3.setCell ⟨w.heap.size + 1 + 1, 0, none⟩ (.int .i64 4)).setCell ⟨w.heap.size + 1 + 1, 1, none⟩ (.int .i64 ca)) 4 ca hf 4 x 0 0 4 ca #[.agg (P3 (1 - hf) 3 ca)] 1) := H3.out.an 4 ca
      clear H3
      go_wp2
      exact HF.out.done 4 ca (some (1 - hf, 3, ca)) true rfl HT.out _ _ _ _ rfl rfl
    have s4F : (st = 4) = False := eq_false s4
    have s4b : (st == 4) = false := by simpa using s4
    have s4n : (st != 4) = true := by simpa using s4
    have HT : Hid (turnH st ca hf 4 (x, 0, 0) = (st, ca, true, none)) := by show turnH _ _ _ _ _ = _; simp [turnH, s1, s4]
    have HD : Hid (Wk w c W1.drew st ca hf 4 x 0 0 0 0 #[] 0) := HWK.out.drew
    obtain ⟨S, hS⟩ : ∃ S : World → Prop, ∀ W, S W ↔ (Blk W w.heap.size (H2 st ca) 27 ∧ Blk W (w.heap.size + 1) (C5 hf 4 x 0 0) 87) := ⟨_, fun _ => Iff.rfl⟩
    have HF : Hid (Wk w c ((W1.drew.setCell ⟨w.heap.size + 1 + 1, 0, none⟩ (.int .i64 st)).setCell ⟨w.heap.size + 1 + 1, 1, none⟩ (.int .i64 ca)) st ca hf 4 x 0 0 st ca #[] 0) := HD.out.an st ca
    have HSD : Hid (S W1.drew ∧ S ((W1.drew.setCell ⟨w.heap.size + 1 + 1, 0, none⟩ (.int .i64 st)).setCell ⟨w.heap.size + 1 + 1, 1, none⟩ (.int .i64 ca))) := ⟨(hS _).2 ⟨HD.out.k0, HD.out.k1⟩, (hS _).2 ⟨HF.out.k0, HF.out.k1⟩⟩
    have ne1 : Nonempty (At S) := ⟨⟨_, HSD.out.1⟩⟩
    have t0 : ∀ W : At S, W.wd.cell? ⟨w.heap.size, 0, none⟩ = some (.int .i64 st) := fun W => by rw [((hS _).1 W.ok).1.cell 0]; rfl
    have t1 : ∀ W : At S, W.wd.cell? ⟨w.heap.size, 1, none⟩ = some (.int .i64 ca) := fun W => by rw [((hS _).1 W.ok).1.cell 1]; rfl
    have t2 : ∀ W : At S, W.wd.cell? ⟨w.heap.size + 1, 1, none⟩ = some (.int .i64 4) := fun W => by rw [((hS _).1 W.ok).2.cell 1]; rfl
    clear hS HWK
    go_wp2
    refine region_anyS S (by kernel_rfl) ?_
    refine anyS_quiet [true, true, true, true, true, true, true, true, true, false, false] 2 rfl (by kernel_rfl) (fun _ _ _ _ _ h => h) HSD.out.1 ?_
    simp only [selT]
    repeat (go_big_quiet_step (fail))
    refine wpQuiet_nil ?_
    clear t0 t1 t2 ne1
    obtain ⟨Wd, hWd⟩ : ∃ W, W1.drew = W := ⟨_, rfl⟩
    rw [hWd] at HD HF HSD ⊢
    clear hWd
    have e0 := HD.out.k2.cell 0
    have e1 := HD.out.k2.cell 1
    have j0 := HD.out.k2.frozen 0
    have j1 := HD.out.k2.frozen 1
    simp at e0 e1
    refine anyS_one 9 (by kernel_rfl) rfl ?_
    go_wp2
    refine ⟨HSD.out.2, ?_⟩
    refine anyS_one 10 (by kernel_rfl) rfl ?_
    go_wp2
    refine ⟨HSD.out.2, ?_⟩
    refine anyS_end (by kernel_rfl) ?_
    go_wp2
    exact HF.out.done st ca none true rfl HT.out _ _ _ _ rfl rfl
  · obtain ⟨rfl, hm1, hm2⟩ := hm
    by_cases v1 : y = 1
    case pos =>
      subst v1
      by_cases h1 : hf = 1
      case pos =>
        subst h1
        by_cases zl : ca < z
        case pos =>
          have HT : Hid (turnH st ca 1 5 (x, 1, z) = (2, z, true, none)) := by show turnH _ _ _ _ _ = _; simp [turnH, zl]
          have H1 : Hid (Wk w c (W1.setCell ⟨w.heap.size, 1, none⟩ (.int .i64 z)) st z 1 5 x 1 z 0 0 #[] 0) := HWK.out.ca _
          clear HWK
          go_wp2
          refine wp_goto ?_
          simp only [Exit.inBlock, Exit.then]
          refine ⟨_, by rw [hc'.out]; rfl, ?_⟩
          have H2 : Hid (Wk w c ((W1.setCell ⟨w.heap.size, 1, none⟩ (.int .i64 z)).setCell ⟨w.heap.size, 0, none⟩ (.int .i64 2)) 2 z 1 5 x 1 z 0 0 #[] 0) := H1.out.st 2
          obtain ⟨W2, hW2⟩ : ∃ W, (W1.setCell ⟨w.heap.size, 1, none⟩ (.int .i64 z)).setCell ⟨w.heap.size, 0, none⟩ (.int .i64 2) = W := ⟨_, rfl⟩
          rw [hW2] at H2
          have HN2 : Hid ((W1.setCell ⟨w.heap.size, 1, none⟩ (.int .i64 z)).setCell ⟨w.heap.size, 0, none⟩ (.int .i64 2) = W2) := hW2
          clear H1 hW2
          have hw2 := HN2.out
          clear HN2
          have d0 := H2.out.k0.cell 0
          have d1 := H2.out.k0.cell 1
          have d2 := H2.out.k1.cell 0
          have e0 := H2.out.k2.cell 0
          have e1 := H2.out.k2.cell 1
          have j0 := H2.out.k2.frozen 0
          have j1 := H2.out.k2.frozen 1
          simp at d0 d1 d2 e0 e1
          have HF : Hid (Wk w c ((W2.setCell ⟨w.heap.size + 1 + 1, 0, none⟩ (.int .i64 2)).setCell ⟨w.heap.size + 1 + 1, 1, none⟩ (.int .i64 z)) 2 z 1 5 x 1 z 2 z #[] 0) := H2.out.an 2 z
          clear H2
          go_wp2
          exact HF.out.done st ca none true rfl HT.out _ _ _ _ rfl rfl
        have zlF : (ca < z) = False := eq_false zl
        by_cases zc : ca = z
        case pos =>
          subst zc
          by_cases s3 : st = 3
          case pos =>
            subst s3
            have HT : Hid (turnH 3 ca 1 5 (x, 1, ca) = (3, ca, true, some (1 - 1, 2, ca))) := by show turnH _ _ _ _ _ = _; simp [turnH]
            go_wp2
            refine wp_goto ?_
            simp only [Exit.inBlock, Exit.then]
            refine ⟨_, by rw [hc'.out]; rfl, ?_⟩
            rw [← HH.out 30]
            have H2 : Hid (Wk w c (W1.setCell ⟨w.heap.size, 0, none⟩ (.int .i64 3)) 3 ca 1 5 x 1 ca 0 0 #[] 0) := HWK.out.st 3
            obtain ⟨W2, hW2⟩ : ∃ W, W1.setCell ⟨w.heap.size, 0, none⟩ (.int .i64 3) = W := ⟨_, rfl⟩
            rw [hW2] at H2
            have HN2 : Hid (W1.setCell ⟨w.heap.size, 0, none⟩ (.int .i64 3) = W2) := hW2
            clear HWK hW2
            go_wp2
            rw [HN2.out]
            clear HN2
            rw [HH.out 30]
            refine region_comm 5 _ rfl rfl ?_
            simp only [List.take]
            have d0 := H2.out.k0.cell 0
            have d1 := H2.out.k0.cell 1
            have d2 := H2.out.k3.cell 2
            simp at d0 d1 d2
            go_wp2
            refine ⟨rfl, undef, _, fun b k cs rest => step_send rfl rfl rfl rfl H2.out.ch (by decide), ?_⟩
            simp only [List.drop]
            refine wpList_nil ?_
            clear d0 d1 d2
            have H3 : Hid (Wk w c (W2.setChan c 1 #[.agg (P3 (1 - 1) 2 ca)] false 1 0 false) 3 ca 1 5 x 1 ca 0 0 #[.agg (P3 (1 - 1) 2 ca)] 1) := H2.out.snd _ _
            obtain ⟨W3, hW3⟩ : ∃ W, W2.setChan c 1 #[.agg (P3 (1 - 1) 2 ca)] false 1 0 false = W := ⟨_, rfl⟩
            rw [hW3] at H3
            have HNW3 : Hid (W2.setChan c 1 #[.agg (P3 (1 - 1) 2 ca)] false 1 0 false = W3) := hW3
            clear H2 hW3
            show Exit.then _ _ Exit.normal _ (W2.setChan c 1 #[.agg (P3 (1 - 1) 2 ca)] false 1 0 false)
            rw [HNW3.out]
            clear HNW3
            have d0 := H3.out.k0.cell 0
            have d1 := H3.out.k0.cell 1
            have d2 := H3.out.k1.cell 0
            have e0 := H3.out.k2.cell 0
            have e1 := H3.out.k2.cell 1
            have j0 := H3.out.k2.frozen 0
            have j1 := H3.out.k2.frozen 1
            simp at d0 d1 d2 e0 e1
            have HF : Hid (Wk w c ((W3.setCell ⟨w.heap.size + 1 + 1, 0, none⟩ (.int .i64 3)).setCell ⟨w.heap.size + 1 + 1, 1, none⟩ (.int .i64 ca)) 3 ca 1 5 x 1 ca 3 ca #[.agg (P3 (1 - 1) 2 ca)] 1) := H3.out.an 3 ca
            clear H3
            go_wp2
            exact HF.out.done 3 ca (some (1 - 1, 2, ca)) true rfl HT.out _ _ _ _ rfl rfl
          have s3F : (st = 3) = False := eq_false s3
          have s3b : (st == 3) = false := by simpa using s3
          have s3n : (st != 3) = true := by simpa using s3
          by_cases s4 : st = 4
          case pos =>
            subst s4
            have HT : Hid (turnH 4 ca 1 5 (x, 1, ca) = (4, ca, true, some (1 - 1, 3, ca))) := by show turnH _ _ _ _ _ = _; simp [turnH]
            go_wp2
            refine wp_goto ?_
            simp only [Exit.inBlock, Exit.then]
            refine ⟨_, by rw [hc'.out]; rfl, ?_⟩
            rw [← HH.out 33]
            have H2 : Hid (Wk w c (W1.setCell ⟨w.heap.size, 0, none⟩ (.int .i64 4)) 4 ca 1 5 x 1 ca 0 0 #[] 0) := HWK.out.st 4
            obtain ⟨W2, hW2⟩ : ∃ W, W1.setCell ⟨w.heap.size, 0, none⟩ (.int .i64 4) = W := ⟨_, rfl⟩
            rw [hW2] at H2
            have HN2 : Hid (W1.setCell ⟨w.heap.size, 0, none⟩ (.int .i64 4) = W2) := hW2
            clear HWK hW2
            go_wp2
            rw [HN2.out]
            clear HN2
            rw [HH.out 33]
            refine region_comm 5 _ rfl rfl ?_
            simp only [List.take]
            have d0 := H2.out.k0.cell 0
            have d1 := H2.out.k0.cell 1
            have d2 := H2.out.k3.cell 2
            simp at d0 d1 d2
            go_wp2
            refine ⟨rfl, undef, _, fun b k cs rest => step_send rfl rfl rfl rfl H2.out.ch (by decide), ?_⟩
            simp only [List.drop]
            refine wpList_nil ?_
            clear d0 d1 d2
            have H3 : Hid (Wk w c (W2.setChan c 1 #[.agg (P3 (1 - 1) 3 ca)] false 1 0 false) 4 ca 1 5 x 1 ca 0 0 #[.agg (P3 (1 - 1) 3 ca)] 1) := H2.out.snd _ _
            obtain ⟨W3, hW3⟩ : ∃ W, W2.setChan c 1 #[.agg (P3 (1 - 1) 3 ca)] false 1 0 false = W := ⟨_, rfl⟩
            rw [hW3] at H3
            have HNW3 : Hid (W2.setChan c 1 #[.agg (P3 (1 - 1) 3 ca)] false 1 0 false = W3) := hW3
            clear H2 hW3
            show Exit.then _ _ Exit.normal _ (W2.setChan c 1 #[.agg (P3 (1 - 1) 3 ca)] false 1 0 false)
            rw [HNW3.out]
            clear HNW3
            have d0 := H3.out.k0.cell 0
            have d1 := H3.out.k0.cell 1
            have d2 := H3.out.k1.cell 0
            have e0 := H3.out.k2.cell 0
            have e1 := H3.out.k2.cell 1
            have j0 := H3.out.k2.frozen 0
            have j1 := H3.out.k2.frozen 1
            simp at d0 d1 d2 e0 e1
            have HF : Hid (Wk w c ((W3.setCell ⟨w.heap.size + 1 + 1, 0, none⟩ (.int .i64 4)).setCell ⟨w.heap.size + 1 + 1, 1, none⟩ (.int .i64 ca)) 4 ca 1 5 x 1 ca 4 ca #[.agg (P3 (1 - 1) 3 ca)] 1) := H3.out.an 4 ca
            clear H3
            go_wp2
            exact HF.out.done 4 ca (some (1 - 1, 3, ca)) true rfl HT.out _ _ _ _ rfl rfl
          have s4F : (st = 4) = False := eq_false s4
          have s4b : (st == 4) = false := by simpa using s4
          have s4n : (st != 4) = true := by simpa using s4
          have HT : Hid (turnH st ca 1 5 (x, 1, ca) = (st, ca, true, none)) := by show turnH _ _ _ _ _ = _; simp [turnH, s3, s4]
          have HD : Hid (Wk w c W1.drew st ca 1 5 x 1 ca 0 0 #[] 0) := HWK.out.drew
          obtain ⟨S, hS⟩ : ∃ S : World → Prop, ∀ W, S W ↔ (Blk W w.heap.size (H2 st ca) 27 ∧ Blk W (w.heap.size + 1) (C5 1 5 x 1 ca) 87) := ⟨_, fun _ => Iff.rfl⟩
          have HF : Hid (Wk w c ((W1.drew.setCell ⟨w.heap.size + 1 + 1, 0, none⟩ (.int .i64 st)).setCell ⟨w.heap.size + 1 + 1, 1, none⟩ (.int .i64 ca)) st ca 1 5 x 1 ca st ca #[] 0) := HD.out.an st ca
          have HSD : Hid (S W1.drew ∧ S ((W1.drew.setCell ⟨w.heap.size + 1 + 1, 0, none⟩ (.int .i64 st)).setCell ⟨w.heap.size + 1 + 1, 1, none⟩ (.int .i64 ca))) := ⟨(hS _).2 ⟨HD.out.k0, HD.out.k1⟩, (hS _).2 ⟨HF.out.k0, HF.out.k1⟩⟩
          have ne1 : Nonempty (At S) := ⟨⟨_, HSD.out.1⟩⟩
          have t0 : ∀ W : At S, W.wd.cell? ⟨w.heap.size, 0, none⟩ = some (.int .i64 st) := fun W => by rw [((hS _).1 W.ok).1.cell 0]; rfl
          have t1 : ∀ W : At S, W.wd.cell? ⟨w.heap.size, 1, none⟩ = some (.int .i64 ca) := fun W => by rw [((hS _).1 W.ok).1.cell 1]; rfl
          have t2 : ∀ W : At S, W.wd.cell? ⟨w.heap.size + 1, 1, none⟩ = some (.int .i64 5) := fun W => by rw [((hS _).1 W.ok).2.cell 1]; rfl
          clear hS HWK
          go_wp2
          refine region_anyS S (by kernel_rfl) ?_
          refine anyS_quiet [true, true, true, true, true, true, true, true, true, false, false] 2 rfl (by kernel_rfl) (fun _ _ _ _ _ h => h) HSD.out.1 ?_
          simp only [selT]
          repeat (go_big_quiet_step (fail))
          refine wpQuiet_nil ?_
          clear t0 t1 t2 ne1
          obtain ⟨Wd, hWd⟩ : ∃ W, W1.drew = W := ⟨_, rfl⟩
          rw [hWd] at HD HF HSD ⊢
          clear hWd
          have e0 := HD.out.k2.cell 0
          have e1 := HD.out.k2.cell 1
          have j0 := HD.out.k2.frozen 0
          have j1 := HD.out.k2.frozen 1
          simp at e0 e1
          refine anyS_one 9 (by kernel_rfl) rfl ?_
          go_wp2
          refine ⟨HSD.out.2, ?_⟩
          refine anyS_one 10 (by kernel_rfl) rfl ?_
          go_wp2
          refine ⟨HSD.out.2, ?_⟩
          refine anyS_end (by kernel_rfl) ?_
          go_wp2
          exact HF.out.done st ca none true rfl HT.out _ _ _ _ rfl rfl
        have zcF : (ca = z) = False := eq_false zc
        have zcb : (ca == z) = false := by simpa using zc
        have zdF : (z = ca) = False := eq_false fun h => zc h.symm
        have zdb : (z == ca) = false := by simpa using fun h => zc (Eq.symm h)
        have HT : Hid (turnH st ca 1 5 (x, 1, z) = (st, ca, true, none)) := by show turnH _ _ _ _ _ = _; simp [turnH, zl, zdF]
        have HD : Hid (Wk w c W1.drew st ca 1 5 x 1 z 0 0 #[] 0) := HWK.out.drew
        obtain ⟨S, hS⟩ : ∃ S : World → Prop, ∀ W, S W ↔ (Blk W w.heap.size (H2 st ca) 27 ∧ Blk W (w.heap.size + 1) (C5 1 5 x 1 z) 87) := ⟨_, fun _ => Iff.rfl⟩
        have HF : Hid (Wk w c ((W1.drew.setCell ⟨w.heap.size + 1 + 1, 0, none⟩ (.int .i64 st)).setCell ⟨w.heap.size + 1 + 1, 1, none⟩ (.int .i64 ca)) st ca 1 5 x 1 z st ca #[] 0) := HD.out.an st ca
        have HSD : Hid (S W1.drew ∧ S ((W1.drew.setCell ⟨w.heap.size + 1 + 1, 0, none⟩ (.int .i64 st)).setCell ⟨w.heap.size + 1 + 1, 1, none⟩ (.int .i64 ca))) := ⟨(hS _).2 ⟨HD.out.k0, HD.out.k1⟩, (hS _).2 ⟨HF.out.k0, HF.out.k1⟩⟩
        have ne1 : Nonempty (At S) := ⟨⟨_, HSD.out.1⟩⟩
        have t0 : ∀ W : At S, W.wd.cell? ⟨w.heap.size, 0, none⟩ = some (.int .i64 st) := fun W => by rw [((hS _).1 W.ok).1.cell 0]; rfl
        have t1 : ∀ W : At S, W.wd.cell? ⟨w.heap.size, 1, none⟩ = some (.int .i64 ca) := fun W => by rw [((hS _).1 W.ok).1.cell 1]; rfl
        have t2 : ∀ W : At S, W.wd.cell? ⟨w.heap.size + 1, 1, none⟩ = some (.int .i64 5) := fun W => by rw [((hS _).1 W.ok).2.cell 1]; rfl
        clear hS HWK
        go_wp2
        refine region_anyS S (by kernel_rfl) ?_
        refine anyS_quiet [true, true, true, true, true, true, true, true, true, false, false] 2 rfl (by kernel_rfl) (fun _ _ _ _ _ h => h) HSD.out.1 ?_
        simp only [selT]
        repeat (go_big_quiet_step (fail))
        refine wpQuiet_nil ?_
        clear t0 t1 t2 ne1
        obtain ⟨Wd, hWd⟩ : ∃ W, W1.drew = W := ⟨_, rfl⟩
        rw [hWd] at HD HF HSD ⊢
        clear hWd
        have e0 := HD.out.k2.cell 0
        have e1 := HD.out.k2.cell 1
        have j0 := HD.out.k2.frozen 0
        have j1 := HD.out.k2.frozen 1
        simp at e0 e1
        refine anyS_one 9 (by kernel_rfl) rfl ?_
        go_wp2
        refine ⟨HSD.out.2, ?_⟩
        refine anyS_one 10 (by kernel_rfl) rfl ?_
        go_wp2
        refine ⟨HSD.out.2, ?_⟩
        refine anyS_end (by kernel_rfl) ?_
        go_wp2
        exact HF.out.done st ca none true rfl HT.out _ _ _ _ rfl rfl
      obtain rfl : hf = 0 := by omega
      have HT : Hid (turnH st ca 0 5 (x, 1, z) = (st, ca, true, none)) := by show turnH _ _ _ _ _ = _; simp [turnH]
      have HD : Hid (Wk w c W1.drew st ca 0 5 x 1 z 0 0 #[] 0) := HWK.out.drew
      obtain ⟨S, hS⟩ : ∃ S : World → Prop, ∀ W, S W ↔ (Blk W w.heap.size (H2 st ca) 27 ∧ Blk W (w.heap.size + 1) (C5 0 5 x 1 z) 87) := ⟨_, fun _ => Iff.rfl⟩
      have HF : Hid (Wk w c ((W1.drew.setCell ⟨w.heap.size + 1 + 1, 0, none⟩ (.int .i64 st)).setCell ⟨w.heap.size + 1 + 1, 1, none⟩ (.int .i64 ca)) st ca 0 5 x 1 z st ca #[] 0) := HD.out.an st ca
      have HSD : Hid (S W1.drew ∧ S ((W1.drew.setCell ⟨w.heap.size + 1 + 1, 0, none⟩ (.int .i64 st)).setCell ⟨w.heap.size + 1 + 1, 1, none⟩ (.int .i64 ca))) := ⟨(hS _).2 ⟨HD.out.k0, HD.out.k1⟩, (hS _).2 ⟨HF.out.k0, HF.out.k1⟩⟩
      have ne1 : Nonempty (At S) := ⟨⟨_, HSD.out.1⟩⟩
      have t0 : ∀ W : At S, W.wd.cell? ⟨w.heap.size, 0, none⟩ = some (.int .i64 st) := fun W => by rw [((hS _).1 W.ok).1.cell 0]; rfl
      have t1 : ∀ W : At S, W.wd.cell? ⟨w.heap.size, 1, none⟩ = some (.int .i64 ca) := fun W => by rw [((hS _).1 W.ok).1.cell 1]; rfl
      have t2 : ∀ W : At S, W.wd.cell? ⟨w.heap.size + 1, 1, none⟩ = some (.int .i64 5) := fun W => by rw [((hS _).1 W.ok).2.cell 1]; rfl
      clear hS HWK
      go_wp2
      refine region_anyS S (by kernel_rfl) ?_
      refine anyS_quiet [true, true, true, true, true, true, true, true, true, false, false] 2 rfl (by kernel_rfl) (fun _ _ _ _ _ h => h) HSD.out.1 ?_
      simp only [selT]
      repeat (go_big_quiet_step (fail))
      refine wpQuiet_nil ?_
      clear t0 t1 t2 ne1
      obtain ⟨Wd, hWd⟩ : ∃ W, W1.drew = W := ⟨_, rfl⟩
      rw [hWd] at HD HF HSD ⊢
      clear hWd
      have e0 := HD.out.k2.cell 0
      have e1 := HD.out.k2.cell 1
      have j0 := HD.out.k2.frozen 0
      have j1 := HD.out.k2.frozen 1
      simp at e0 e1
      refine anyS_one 9 (by kernel_rfl) rfl ?_
      go_wp2
      refine ⟨HSD.out.2, ?_⟩
      refine anyS_one 10 (by kernel_rfl) rfl ?_
      go_wp2
      refine ⟨HSD.out.2, ?_⟩
      refine anyS_end (by kernel_rfl) ?_
      go_wp2
      exact HF.out.done st ca none true rfl HT.out _ _ _ _ rfl rfl
    by_cases v2 : y = 2
    case pos =>
      subst v2
      by_cases zc : ca = z
      case pos =>
        subst zc
        by_cases s1 : st = 1
        case pos =>
          subst s1
          by_cases h1 : hf = 1
          case pos =>
            subst h1
            have HT : Hid (turnH 1 ca 1 5 (x, 2, ca) = (3, ca, true, some (1 - 1, 2, ca))) := by show turnH _ _ _ _ _ = _; simp [turnH]
            go_wp2
            refine wp_goto ?_
            simp only [Exit.inBlock, Exit.then]
            refine ⟨_, by rw [hc'.out]; rfl, ?_⟩
            rw [← HH.out 30]
            have H2 : Hid (Wk w c (W1.setCell ⟨w.heap.size, 0, none⟩ (.int .i64 3)) 3 ca 1 5 x 2 ca 0 0 #[] 0) := HWK.out.st 3
            obtain ⟨W2, hW2⟩ : ∃ W, W1.setCell ⟨w.heap.size, 0, none⟩ (.int .i64 3) = W := ⟨_, rfl⟩
            rw [hW2] at H2
            have HN2 : Hid (W1.setCell ⟨w.heap.size, 0, none⟩ (.int .i64 3) = W2) := hW2
            clear HWK hW2
            go_wp2
            rw [HN2.out]
            clear HN2
            rw [HH.out 30]
            refine region_comm 5 _ rfl rfl ?_
            simp only [List.take]
            have d0 := H2.out.k0.cell 0
            have d1 := H2.out.k0.cell 1
            have d2 := H2.out.k3.cell 2
            simp at d0 d1 d2
            go_wp2
            refine ⟨rfl, undef, _, fun b k cs rest => step_send rfl rfl rfl rfl H2.out.ch (by decide), ?_⟩
            simp only [List.drop]
            refine wpList_nil ?_
            clear d0 d1 d2
            have H3 : Hid (Wk w c (W2.setChan c 1 #[.agg (P3 (1 - 1) 2 ca)] false 1 0 false) 3 ca 1 5 x 2 ca 0 0 #[.agg (P3 (1 - 1) 2 ca)] 1) := H2.out.snd _ _
            obtain ⟨W3, hW3⟩ : ∃ W, W2.setChan c 1 #[.agg (P3 (1 - 1) 2 ca)] false 1 0 false = W := ⟨_, rfl⟩
            rw [hW3] at H3
            have HNW3 : Hid (W2.setChan c 1 #[.agg (P3 (1 - 1) 2 ca)] false 1 0 false = W3) := hW3
            clear H2 hW3
            show Exit.then _ _ Exit.normal _ (W2.setChan c 1 #[.agg (P3 (1 - 1) 2 ca)] false 1 0 false)
            rw [HNW3.out]
            clear HNW3
            have d0 := H3.out.k0.cell 0
            have d1 := H3.out.k0.cell 1
            have d2 := H3.out.k1.cell 0
            have e0 := H3.out.k2.cell 0
            have e1 := H3.out.k2.cell 1
            have j0 := H3.out.k2.frozen 0
            have j1 := H3.out.k2.frozen 1
            simp at d0 d1 d2 e0 e1
            have HF : Hid (Wk w c ((W3.setCell ⟨w.heap.size + 1 + 1, 0, none⟩ (.int .i64 3)).setCell ⟨w.heap.size + 1 + 1, 1, none⟩ (.int .i64 ca)) 3 ca 1 5 x 2 ca 3 ca #[.agg (P3 (1 - 1) 2 ca)] 1) := H3.out.an 3 ca
            clear H3
            go_wp2
            exact HF.out.done 1 ca (some (1 - 1, 2, ca)) true rfl HT.out _ _ _ _ rfl rfl
          obtain rfl : hf = 0 := by omega
          have HT : Hid (turnH 1 ca 0 5 (x, 2, ca) = (3, ca, true, none)) := by show turnH _ _ _ _ _ = _; simp [turnH]
          go_wp2
          refine wp_goto ?_
          simp only [Exit.inBlock, Exit.then]
          refine ⟨_, by rw [hc'.out]; rfl, ?_⟩
          have H2 : Hid (Wk w c (W1.setCell ⟨w.heap.size, 0, none⟩ (.int .i64 3)) 3 ca 0 5 x 2 ca 0 0 #[] 0) := HWK.out.st 3
          obtain ⟨W2, hW2⟩ : ∃ W, W1.setCell ⟨w.heap.size, 0, none⟩ (.int .i64 3) = W := ⟨_, rfl⟩
          rw [hW2] at H2
          have HN2 : Hid (W1.setCell ⟨w.heap.size, 0, none⟩ (.int .i64 3) = W2) := hW2
          clear HWK hW2
          have hw2 := HN2.out
          clear HN2
          have d0 := H2.out.k0.cell 0
          have d1 := H2.out.k0.cell 1
          have d2 := H2.out.k1.cell 0
          have e0 := H2.out.k2.cell 0
          have e1 := H2.out.k2.cell 1
          have j0 := H2.out.k2.frozen 0
          have j1 := H2.out.k2.frozen 1
          simp at d0 d1 d2 e0 e1
          have HF : Hid (Wk w c ((W2.setCell ⟨w.heap.size + 1 + 1, 0, none⟩ (.int .i64 3)).setCell ⟨w.heap.size + 1 + 1, 1, none⟩ (.int .i64 ca)) 3 ca 0 5 x 2 ca 3 ca #[] 0) := H2.out.an 3 ca
          clear H2
          go_wp2
          exact HF.out.done 1 ca none true rfl HT.out _ _ _ _ rfl rfl
        have s1F : (st = 1) = False := eq_false s1
        have s1b : (st == 1) = false := by simpa using s1
        have s1n : (st != 1) = true := by simpa using s1
        have HT : Hid (turnH st ca hf 5 (x, 2, ca) = (st, ca, true, none)) := by show turnH _ _ _ _ _ = _; simp [turnH, s1]
        have HD : Hid (Wk w c W1.drew st ca hf 5 x 2 ca 0 0 #[] 0) := HWK.out.drew
        obtain ⟨S, hS⟩ : ∃ S : World → Prop, ∀ W, S W ↔ (Blk W w.heap.size (H2 st ca) 27 ∧ Blk W (w.heap.size + 1) (C5 hf 5 x 2 ca) 87) := ⟨_, fun _ => Iff.rfl⟩
        have HF : Hid (Wk w c ((W1.drew.setCell ⟨w.heap.size + 1 + 1, 0, none⟩ (.int .i64 st)).setCell ⟨w.heap.size + 1 + 1, 1, none⟩ (.int .i64 ca)) st ca hf 5 x 2 ca st ca #[] 0) := HD.out.an st ca
        have HSD : Hid (S W1.drew ∧ S ((W1.drew.setCell ⟨w.heap.size + 1 + 1, 0, none⟩ (.int .i64 st)).setCell ⟨w.heap.size + 1 + 1, 1, none⟩ (.int .i64 ca))) := ⟨(hS _).2 ⟨HD.out.k0, HD.out.k1⟩, (hS _).2 ⟨HF.out.k0, HF.out.k1⟩⟩
        have ne1 : Nonempty (At S) := ⟨⟨_, HSD.out.1⟩⟩
        have t0 : ∀ W : At S, W.wd.cell? ⟨w.heap.size, 0, none⟩ = some (.int .i64 st) := fun W => by rw [((hS _).1 W.ok).1.cell 0]; rfl
        have t1 : ∀ W : At S, W.wd.cell? ⟨w.heap.size, 1, none⟩ = some (.int .i64 ca) := fun W => by rw [((hS _).1 W.ok).1.cell 1]; rfl
        have t2 : ∀ W : At S, W.wd.cell? ⟨w.heap.size + 1, 1, none⟩ = some (.int .i64 5) := fun W => by rw [((hS _).1 W.ok).2.cell 1]; rfl
        clear hS HWK
        go_wp2
        refine region_anyS S (by kernel_rfl) ?_
        refine anyS_quiet [true, true, true, true, true, true, true, true, true, false, false] 2 rfl (by kernel_rfl) (fun _ _ _ _ _ h => h) HSD.out.1 ?_
        simp only [selT]
        repeat (go_big_quiet_step (fail))
        refine wpQuiet_nil ?_
        clear t0 t1 t2 ne1
        obtain ⟨Wd, hWd⟩ : ∃ W, W1.drew = W := ⟨_, rfl⟩
        rw [hWd] at HD HF HSD ⊢
        clear hWd
        have e0 := HD.out.k2.cell 0
        have e1 := HD.out.k2.cell 1
        have j0 := HD.out.k2.frozen 0
        have j1 := HD.out.k2.frozen 1
        simp at e0 e1
        refine anyS_one 9 (by kernel_rfl) rfl ?_
        go_wp2
        refine ⟨HSD.out.2, ?_⟩
        refine anyS_one 10 (by kernel_rfl) rfl ?_
        go_wp2
        refine ⟨HSD.out.2, ?_⟩
        refine anyS_end (by kernel_rfl) ?_
        go_wp2
        exact HF.out.done st ca none true rfl HT.out _ _ _ _ rfl rfl
      have zcF : (ca = z) = False := eq_false zc
      have zcb : (ca == z) = false := by simpa using zc
      have zdF : (z = ca) = False := eq_false fun h => zc h.symm
      have zdb : (z == ca) = false := by simpa using fun h => zc (Eq.symm h)
      have HT : Hid (turnH st ca hf 5 (x, 2, z) = (st, ca, true, none)) := by show turnH _ _ _ _ _ = _; simp [turnH, zdF]
      have HD : Hid (Wk w c W1.drew st ca hf 5 x 2 z 0 0 #[] 0) := HWK.out.drew
      obtain ⟨S, hS⟩ : ∃ S : World → Prop, ∀ W, S W ↔ (Blk W w.heap.size (H2 st ca) 27 ∧ Blk W (w.heap.size + 1) (C5 hf 5 x 2 z) 87) := ⟨_, fun _ => Iff.rfl⟩
      have HF : Hid (Wk w c ((W1.drew.setCell ⟨w.heap.size + 1 + 1, 0, none⟩ (.int .i64 st)).setCell ⟨w.heap.size + 1 + 1, 1, none⟩ (.int .i64 ca)) st ca hf 5 x 2 z st ca #[] 0) := HD.out.an st ca
      have HSD : Hid (S W1.drew ∧ S ((W1.drew.setCell ⟨w.heap.size + 1 + 1, 0, none⟩ (.int .i64 st)).setCell ⟨w.heap.size + 1 + 1, 1, none⟩ (.int .i64 ca))) := ⟨(hS _).2 ⟨HD.out.k0, HD.out.k1⟩, (hS _).2 ⟨HF.out.k0, HF.out.k1⟩⟩
      have ne1 : Nonempty (At S) := ⟨⟨_, HSD.out.1⟩⟩
      have t0 : ∀ W : At S, W.wd.cell? ⟨w.heap.size, 0, none⟩ = some (.int .i64 st) := fun W => by rw [((hS _).1 W.ok).1.cell 0]; rfl
      have t1 : ∀ W : At S, W.wd.cell? ⟨w.heap.size, 1, none⟩ = some (.int .i64 ca) := fun W => by rw [((hS _).1 W.ok).1.cell 1]; rfl
      have t2 : ∀ W : At S, W.wd.cell? ⟨w.heap.size + 1, 1, none⟩ = some (.int .i64 5) := fun W => by rw [((hS _).1 W.ok).2.cell 1]; rfl
      clear hS HWK
      go_wp2
      refine region_anyS S (by kernel_rfl) ?_
      refine anyS_quiet [true, true, true, true, true, true, true, true, true, false, false] 2 rfl (by kernel_rfl) (fun _ _ _ _ _ h => h) HSD.out.1 ?_
      simp only [selT]
      repeat (go_big_quiet_step (fail))
      refine wpQuiet_nil ?_
      clear t0 t1 t2 ne1
      obtain ⟨Wd, hWd⟩ : ∃ W, W1.drew = W := ⟨_, rfl⟩
      rw [hWd] at HD HF HSD ⊢
      clear hWd
      have e0 := HD.out.k2.cell 0
      have e1 := HD.out.k2.cell 1
      have j0 := HD.out.k2.frozen 0
      have j1 := HD.out.k2.frozen 1
      simp at e0 e1
      refine anyS_one 9 (by kernel_rfl) rfl ?_
      go_wp2
      refine ⟨HSD.out.2, ?_⟩
      refine anyS_one 10 (by kernel_rfl) rfl ?_
      go_wp2
      refine ⟨HSD.out.2, ?_⟩
      refine anyS_end (by kernel_rfl) ?_
      go_wp2
      exact HF.out.done st ca none true rfl HT.out _ _ _ _ rfl rfl
    by_cases v3 : y = 3
    case pos =>
      subst v3
      go_wp2
      rw [HH.out 16]
      refine region_comm 5 _ rfl rfl ?_
      simp only [List.take]
      have d0 := HWK.out.k0.cell 0
      have d1 := HWK.out.k0.cell 1
      have d2 := HWK.out.k3.cell 2
      simp at d0 d1 d2
      go_wp2
      refine ⟨rfl, undef, _, fun b k cs rest => step_send rfl rfl rfl rfl HWK.out.ch (by decide), ?_⟩
      simp only [List.drop]
      refine wpList_nil ?_
      clear d0 d1 d2
      have H3 : Hid (Wk w c (W1.setChan c 1 #[.agg (P3 (1 - hf) 4 z)] false 1 0 false) st ca hf 5 x 3 z 0 0 #[.agg (P3 (1 - hf) 4 z)] 1) := HWK.out.snd _ _
      obtain ⟨W3, hW3⟩ : ∃ W, W1.setChan c 1 #[.agg (P3 (1 - hf) 4 z)] false 1 0 false = W := ⟨_, rfl⟩
      rw [hW3] at H3
      have HNW3 : Hid (W1.setChan c 1 #[.agg (P3 (1 - hf) 4 z)] false 1 0 false = W3) := hW3
      clear HWK hW3
      show Exit.then _ _ Exit.normal _ (W1.setChan c 1 #[.agg (P3 (1 - hf) 4 z)] false 1 0 false)
      rw [HNW3.out]
      clear HNW3
      have c00 := H3.out.k0.cell 0
      have c01 := H3.out.k0.cell 1
      have c11 := H3.out.k1.cell 1
      have c32 := H3.out.k3.cell 2
      have fz0 := H3.out.k0.frozen 0
      have fz1 := H3.out.k0.frozen 1
      simp at c00 c01 c11 c32
      by_cases zl : ca ≤ z
      case pos =>
        have HT : Hid (turnH st ca hf 5 (x, 3, z) = (0, z, true, some (1 - hf, 4, z))) := by show turnH _ _ _ _ _ = _; simp [turnH, zl]
        have H4 : Hid (Wk w c (W3.setCell ⟨w.heap.size, 1, none⟩ (.int .i64 z)) st z hf 5 x 3 z 0 0 #[.agg (P3 (1 - hf) 4 z)] 1) := H3.out.ca _
        clear H3
        go_wp2
        refine wp_goto ?_
        simp only [Exit.inBlock, Exit.then]
        refine ⟨_, by rw [hc'.out]; rfl, ?_⟩
        have H2 : Hid (Wk w c ((W3.setCell ⟨w.heap.size, 1, none⟩ (.int .i64 z)).setCell ⟨w.heap.size, 0, none⟩ (.int .i64 0)) 0 z hf 5 x 3 z 0 0 #[.agg (P3 (1 - hf) 4 z)] 1) := H4.out.st 0
        obtain ⟨W2, hW2⟩ : ∃ W, (W3.setCell ⟨w.heap.size, 1, none⟩ (.int .i64 z)).setCell ⟨w.heap.size, 0, none⟩ (.int .i64 0) = W := ⟨_, rfl⟩
        rw [hW2] at H2
        have HN2 : Hid ((W3.setCell ⟨w.heap.size, 1, none⟩ (.int .i64 z)).setCell ⟨w.heap.size, 0, none⟩ (.int .i64 0) = W2) := hW2
        clear H4 hW2
        have hw2 := HN2.out
        clear HN2
        have d0 := H2.out.k0.cell 0
        have d1 := H2.out.k0.cell 1
        have d2 := H2.out.k1.cell 0
        have e0 := H2.out.k2.cell 0
        have e1 := H2.out.k2.cell 1
        have j0 := H2.out.k2.frozen 0
        have j1 := H2.out.k2.frozen 1
        simp at d0 d1 d2 e0 e1
        have HF : Hid (Wk w c ((W2.setCell ⟨w.heap.size + 1 + 1, 0, none⟩ (.int .i64 0)).setCell ⟨w.heap.size + 1 + 1, 1, none⟩ (.int .i64 z)) 0 z hf 5 x 3 z 0 z #[.agg (P3 (1 - hf) 4 z)] 1) := H2.out.an 0 z
        clear H2
        go_wp2
        exact HF.out.done st ca (some (1 - hf, 4, z)) true rfl HT.out _ _ _ _ rfl rfl
      have zlF : (ca ≤ z) = False := eq_false zl
      have HT : Hid (turnH st ca hf 5 (x, 3, z) = (st, ca, true, some (1 - hf, 4, z))) := by show turnH _ _ _ _ _ = _; simp [turnH, zl]
      have HD : Hid (Wk w c W3.drew st ca hf 5 x 3 z 0 0 #[.agg (P3 (1 - hf) 4 z)] 1) := H3.out.drew
      obtain ⟨S, hS⟩ : ∃ S : World → Prop, ∀ W, S W ↔ (Blk W w.heap.size (H2 st ca) 27 ∧ Blk W (w.heap.size + 1) (C5 hf 5 x 3 z) 87) := ⟨_, fun _ => Iff.rfl⟩
      have HF : Hid (Wk w c ((W3.drew.setCell ⟨w.heap.size + 1 + 1, 0, none⟩ (.int .i64 st)).setCell ⟨w.heap.size + 1 + 1, 1, none⟩ (.int .i64 ca)) st ca hf 5 x 3 z st ca #[.agg (P3 (1 - hf) 4 z)] 1) := HD.out.an st ca
      have HSD : Hid (S W3.drew ∧ S ((W3.drew.setCell ⟨w.heap.size + 1 + 1, 0, none⟩ (.int .i64 st)).setCell ⟨w.heap.size + 1 + 1, 1, none⟩ (.int .i64 ca))) := ⟨(hS _).2 ⟨HD.out.k0, HD.out.k1⟩, (hS _).2 ⟨HF.out.k0, HF.out.k1⟩⟩
      have ne1 : Nonempty (At S) := ⟨⟨_, HSD.out.1⟩⟩
      have t0 : ∀ W : At S, W.wd.cell? ⟨w.heap.size, 0, none⟩ = some (.int .i64 st) := fun W => by rw [((hS _).1 W.ok).1.cell 0]; rfl
      have t1 : ∀ W : At S, W.wd.cell? ⟨w.heap.size, 1, none⟩ = some (.int .i64 ca) := fun W => by rw [((hS _).1 W.ok).1.cell 1]; rfl
      have t2 : ∀ W : At S, W.wd.cell? ⟨w.heap.size + 1, 1, none⟩ = some (.int .i64 5) := fun W => by rw [((hS _).1 W.ok).2.cell 1]; rfl
      clear hS H3
      go_wp2
      refine region_anyS S (by kernel_rfl) ?_
      refine anyS_quiet [true, true, true, true, true, true, true, true, true, false, false] 2 rfl (by kernel_rfl) (fun _ _ _ _ _ h => h) HSD.out.1 ?_
      simp only [selT]
      repeat (go_big_quiet_step (fail))
      refine wpQuiet_nil ?_
      clear t0 t1 t2 ne1
      obtain ⟨Wd, hWd⟩ : ∃ W, W3.drew = W := ⟨_, rfl⟩
      rw [hWd] at HD HF HSD ⊢
      clear hWd
      have e0 := HD.out.k2.cell 0
      have e1 := HD.out.k2.cell 1
      have j0 := HD.out.k2.frozen 0
      have j1 := HD.out.k2.frozen 1
      simp at e0 e1
      refine anyS_one 9 (by kernel_rfl) rfl ?_
      go_wp2
      refine ⟨HSD.out.2, ?_⟩
      refine anyS_one 10 (by kernel_rfl) rfl ?_
      go_wp2
      refine ⟨HSD.out.2, ?_⟩
      refine anyS_end (by kernel_rfl) ?_
      go_wp2
      exact HF.out.done st ca (some (1 - hf, 4, z)) true rfl HT.out _ _ _ _ rfl rfl
    obtain rfl : y = 4 := by omega
    by_cases zc : ca = z
    case pos =>
      subst zc
      by_cases s4 : st = 4
      case pos =>
        subst s4
        have HT : Hid (turnH 4 ca hf 5 (x, 4, ca) = (0, ca, true, none)) := by show turnH _ _ _ _ _ = _; simp [turnH]
        go_wp2
        refine wp_goto ?_
        simp only [Exit.inBlock, Exit.then]
        refine ⟨_, by rw [hc'.out]; rfl, ?_⟩
        have H2 : Hid (Wk w c (W1.setCell ⟨w.heap.size, 0, none⟩ (.int .i64 0)) 0 ca hf 5 x 4 ca 0 0 #[] 0) := HWK.out.st 0
        obtain ⟨W2, hW2⟩ : ∃ W, W1.setCell ⟨w.heap.size, 0, none⟩ (.int .i64 0) = W := ⟨_, rfl⟩
        rw [hW2] at H2
        have HN2 : Hid (W1.setCell ⟨w.heap.size, 0, none⟩ (.int .i64 0) = W2) := hW2
        clear HWK hW2
        have hw2 := HN2.out
        clear HN2
        have d0 := H2.out.k0.cell 0
        have d1 := H2.out.k0.cell 1
        have d2 := H2.out.k1.cell 0
        have e0 := H2.out.k2.cell 0
        have e1 := H2.out.k2.cell 1
        have j0 := H2.out.k2.frozen 0
        have j1 := H2.out.k2.frozen 1
        simp at d0 d1 d2 e0 e1
        have HF : Hid (Wk w c ((W2.setCell ⟨w.heap.size + 1 + 1, 0, none⟩ (.int .i64 0)).setCell ⟨w.heap.size + 1 + 1, 1, none⟩ (.int .i64 ca)) 0 ca hf 5 x 4 ca 0 ca #[] 0) := H2.out.an 0 ca
        clear H2
        go_wp2
        exact HF.out.done 4 ca none true rfl HT.out _ _ _ _ rfl rfl
      have s4F : (st = 4) = False := eq_false s4
      have s4b : (st == 4) = false := by simpa using s4
      have s4n : (st != 4) = true := by simpa using s4
      have HT : Hid (turnH st ca hf 5 (x, 4, ca) = (st, ca, true, none)) := by show turnH _ _ _ _ _ = _; simp [turnH, s4]
      have HD : Hid (Wk w c W1.drew st ca hf 5 x 4 ca 0 0 #[] 0) := HWK.out.drew
      obtain ⟨S, hS⟩ : ∃ S : World → Prop, ∀ W, S W ↔ (Blk W w.heap.size (H2 st ca) 27 ∧ Blk W (w.heap.size + 1) (C5 hf 5 x 4 ca) 87) := ⟨_, fun _ => Iff.rfl⟩
      have HF : Hid (Wk w c ((W1.drew.setCell ⟨w.heap.size + 1 + 1, 0, none⟩ (.int .i64 st)).setCell ⟨w.heap.size + 1 + 1, 1, none⟩ (.int .i64 ca)) st ca hf 5 x 4 ca st ca #[] 0) := HD.out.an st ca
      have HSD : Hid (S W1.drew ∧ S ((W1.drew.setCell ⟨w.heap.size + 1 + 1, 0, none⟩ (.int .i64 st)).setCell ⟨w.heap.size + 1 + 1, 1, none⟩ (.int .i64 ca))) := ⟨(hS _).2 ⟨HD.out.k0, HD.out.k1⟩, (hS _).2 ⟨HF.out.k0, HF.out.k1⟩⟩
      have ne1 : Nonempty (At S) := ⟨⟨_, HSD.out.1⟩⟩
      have t0 : ∀ W : At S, W.wd.cell? ⟨w.heap.size, 0, none⟩ = some (.int .i64 st) := fun W => by rw [((hS _).1 W.ok).1.cell 0]; rfl
      have t1 : ∀ W : At S, W.wd.cell? ⟨w.heap.size, 1, none⟩ = some (.int .i64 ca) := fun W => by rw [((hS _).1 W.ok).1.cell 1]; rfl
      have t2 : ∀ W : At S, W.wd.cell? ⟨w.heap.size + 1, 1, none⟩ = some (.int .i64 5) := fun W => by rw [((hS _).1 W.ok).2.cell 1]; rfl
      clear hS HWK
      go_wp2
      refine region_anyS S (by kernel_rfl) ?_
      refine anyS_quiet [true, true, true, true, true, true, true, true, true, false, false] 2 rfl (by kernel_rfl) (fun _ _ _ _ _ h => h) HSD.out.1 ?_
      simp only [selT]
      repeat (go_big_quiet_step (fail))
      refine wpQuiet_nil ?_
      clear t0 t1 t2 ne1
      obtain ⟨Wd, hWd⟩ : ∃ W, W1.drew = W := ⟨_, rfl⟩
      rw [hWd] at HD HF HSD ⊢
      clear hWd
      have e0 := HD.out.k2.cell 0
      have e1 := HD.out.k2.cell 1
      have j0 := HD.out.k2.frozen 0
      have j1 := HD.out.k2.frozen 1
      simp at e0 e1
      refine anyS_one 9 (by kernel_rfl) rfl ?_
      go_wp2
      refine ⟨HSD.out.2, ?_⟩
      refine anyS_one 10 (by kernel_rfl) rfl ?_
      go_wp2
      refine ⟨HSD.out.2, ?_⟩
      refine anyS_end (by kernel_rfl) ?_
      go_wp2
      exact HF.out.done st ca none true rfl HT.out _ _ _ _ rfl rfl
    have zcF : (ca = z) = False := eq_false zc
    have zcb : (ca == z) = false := by simpa using zc
    have zdF : (z = ca) = False := eq_false fun h => zc h.symm
    have zdb : (z == ca) = false := by simpa using fun h => zc (Eq.symm h)
    have HT : Hid (turnH st ca hf 5 (x, 4, z) = (st, ca, true, none)) := by show turnH _ _ _ _ _ = _; simp [turnH, zdF]
    have HD : Hid (Wk w c W1.drew st ca hf 5 x 4 z 0 0 #[] 0) := HWK.out.drew
    obtain ⟨S, hS⟩ : ∃ S : World → Prop, ∀ W, S W ↔ (Blk W w.heap.size (H2 st ca) 27 ∧ Blk W (w.heap.size + 1) (C5 hf 5 x 4 z) 87) := ⟨_, fun _ => Iff.rfl⟩
    have HF : Hid (Wk w c ((W1.drew.setCell ⟨w.heap.size + 1 + 1, 0, none⟩ (.int .i64 st)).setCell ⟨w.heap.size + 1 + 1, 1, none⟩ (.int .i64 ca)) st ca hf 5 x 4 z st ca #[] 0) := HD.out.an st ca
    have HSD : Hid (S W1.drew ∧ S ((W1.drew.setCell ⟨w.heap.size + 1 + 1, 0, none⟩ (.int .i64 st)).setCell ⟨w.heap.size + 1 + 1, 1, none⟩ (.int .i64 ca))) := ⟨(hS _).2 ⟨HD.out.k0, HD.out.k1⟩, (hS _).2 ⟨HF.out.k0, HF.out.k1⟩⟩
    have ne1 : Nonempty (At S) := ⟨⟨_, HSD.out.1⟩⟩
    have t0 : ∀ W : At S, W.wd.cell? ⟨w.heap.size, 0, none⟩ = some (.int .i64 st) := fun W => by rw [((hS _).1 W.ok).1.cell 0]; rfl
    have t1 : ∀ W : At S, W.wd.cell? ⟨w.heap.size, 1, none⟩ = some (.int .i64 ca) := fun W => by rw [((hS _).1 W.ok).1.cell 1]; rfl
    have t2 : ∀ W : At S, W.wd.cell? ⟨w.heap.size + 1, 1, none⟩ = some (.int .i64 5) := fun W => by rw [((hS _).1 W.ok).2.cell 1]; rfl
    clear hS HWK
    go_wp2
    refine region_anyS S (by kernel_rfl) ?_
    refine anyS_quiet [true, true, true, true, true, true, true, true, true, false, false] 2 rfl (by kernel_rfl) (fun _ _ _ _ _ h => h) HSD.out.1 ?_
    simp only [selT]
    repeat (go_big_quiet_step (fail))
    refine wpQuiet_nil ?_
    clear t0 t1 t2 ne1
    obtain ⟨Wd, hWd⟩ : ∃ W, W1.drew = W := ⟨_, rfl⟩
    rw [hWd] at HD HF HSD ⊢
    clear hWd
    have e0 := HD.out.k2.cell 0
    have e1 := HD.out.k2.cell 1
    have j0 := HD.out.k2.frozen 0
    have j1 := HD.out.k2.frozen 1
    simp at e0 e1
    refine anyS_one 9 (by kernel_rfl) rfl ?_
    go_wp2
    refine ⟨HSD.out.2, ?_⟩
    refine anyS_one 10 (by kernel_rfl) rfl ?_
    go_wp2
    refine ⟨HSD.out.2, ?_⟩
    refine anyS_end (by kernel_rfl) ?_
    go_wp2
    exact HF.out.done st ca none true rfl HT.out _ _ _ _ rfl rfl
end Go.Proofs.Ytljejjfhlpjlfaa
