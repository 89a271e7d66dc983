/- Air15, as the program has it; no condition. -/
import Derived.Test.YtomgdlnpajfjhaaSng
import Derived.Test.YtomgdlnpajfjhaaBai
import Derived.Test.YtomgdlnpajfjhaaMixT
import Derived.Test.YtomgdlnpajfjhaaLea
namespace Go.Proofs.Ytomgdlnpajfjhaa
open Go.RowKit Go.ChangeShapes Go.WideShapes Go.ChangeAt
set_option linter.unusedVariables false
set_option linter.unusedSimpArgs false
set_option maxRecDepth 8000

theorem getD_set_self' {α : Type} (l : List α) (k : Nat) (x d : α) (h : k < l.length) : (l.set k x).getD k d = x := by
  rw [List.getD_eq_getElem?_getD, List.getElem?_set_self h, Option.getD_some]
theorem getD_set_ne' {α : Type} (l : List α) (k j : Nat) (x d : α) (h : k ≠ j) : (l.set k x).getD j d = l.getD j d := by
  rw [List.getD_eq_getElem?_getD, List.getElem?_set_ne h, ← List.getD_eq_getElem?_getD]
theorem getD_at {α : Type} (l : List α) (k : Nat) (d : α) (h : k < l.length) : l.getD k d = l[k] := by
  rw [List.getD_eq_getElem?_getD, List.getElem?_eq_getElem h, Option.getD_some]
def AiR (L : List (Nat × Nat)) (g : Nat × Nat) (M : List (Nat × Nat)) (w : World) (e : Ending) (w' : World) : Prop := ∃ v air, e = .returned (.tuple #[v, .bool true]) ∧ Og 2 smC 27 w.heap.size w' v air ∧ air.length = L.length ∧ (∀ k, k < L.length → AR (L.getD k (0, 0)) g (M.getD k (0, 0)) (air.getD k (0, 0))) ∧ Below w.heap.size w w'
/-- what stands behind j rounds -/
def AiJ (L : List (Nat × Nat)) (g : Nat × Nat) (M us : List (Nat × Nat)) (j : Nat) : Prop := us.length = L.length ∧ (∀ k, k < j → AR (L.getD k (0, 0)) g (M.getD k (0, 0)) (us.getD k (0, 0))) ∧ ∀ k, j ≤ k → us.getD k (0, 0) = L.getD k (0, 0)
theorem AiJ.next {L M us : List (Nat × Nat)} {g o : Nat × Nat} {j : Nat} (h : AiJ L g M us j) (hj : j < L.length) (ho : AR (L.getD j (0, 0)) g (M.getD j (0, 0)) o) : AiJ L g M (us.set j o) (j + 1) := by
  refine ⟨by rw [List.length_set]; exact h.1, fun k hk => ?_, fun k hk => ?_⟩
  · by_cases e : k = j
    · subst e; rw [getD_set_self' _ _ _ _ (by rw [h.1]; exact hj)]; exact ho
    · rw [getD_set_ne' _ _ _ _ _ (Ne.symm e)]; exact h.2.1 k (by omega)
  · rw [getD_set_ne' _ _ _ _ _ (by omega)]; exact h.2.2 k (by omega)
set_option maxHeartbeats 25600000 in
theorem airI_c (v u : Value) (L M : List (Nat × Nat)) (p q : Nat) (w : World) (h : Rg 2 smC w v L) (hM : Rg 2 smC w u M) (hl : L.length = M.length) (hn : L.length ≤ 200) : Calls Try.prog 8 #[v, .agg #[.float .f32 p, .float .f32 q], u] w (AiR L (p, q) M w) := by
  have hst := storeC
  have hop := run_cop (P := Try.prog) .add (.inl rfl)
  have HR : Hid (Rg 2 smC w v L) := h
  obtain ⟨a, cap, rfl, h1, h2, -⟩ := h
  obtain ⟨a', cap', rfl, h1', h2', h3'⟩ := hM
  unfold maxLen at h2 h2'
  obtain ⟨X, hX⟩ : ∃ X, w.heap.size = X := ⟨_, rfl⟩
  have HXX : Hid (w.heap.size = X) := hX
  obtain ⟨W0, hW0⟩ : ∃ W, w.alloc (Obj.cells #[.float .f32 p, .float .f32 q] 27) = W := ⟨_, rfl⟩
  have HW0 : Hid (w.alloc (Obj.cells #[.float .f32 p, .float .f32 q] 27) = W0) := hW0
  have HB0 : Hid (Below w.heap.size w W0) := by rw [← hW0]; exact (Below.refl _ _).alloc (Nat.le_refl _) _
  have HK0 : Hid (Blk W0 X #[.float .f32 p, .float .f32 q] 27) := by rw [← hW0, ← hX]; exact Blk.new _ _ _
  have HR0 : Hid (Rg 2 smC W0 (.slice a L.length cap) L) := HR.out.below HB0.out
  have HCE : Hid (∀ W k, k < L.length → Below w.heap.size w W → ∃ bo : Nat × Nat, a' = some ⟨bo.1, bo.2, none⟩ ∧ bo.1 < w.heap.size ∧ W.cell? ⟨bo.1, bo.2 + k * 2, none⟩ = some (.float .f32 (M.getD k (0, 0)).1) ∧ W.cell? ⟨bo.1, bo.2 + k * 2 + 1, none⟩ = some (.float .f32 (M.getD k (0, 0)).2)) := fun W k hk hW => by
    rcases h3' with h3 | ⟨b, off, h0, h4⟩
    · have h0 : M.length = 0 := by rw [h3]; rfl
      omega
    · have hkm : k < M.length := by omega
      have hc0 := h4 k hkm 0 _ rfl
      have hc1 := h4 k hkm 1 _ rfl
      have e : M.getD k (0, 0) = M[k] := getD_at _ _ _ hkm
      refine ⟨(b, off), h0, block_lt_of_cell hc0, ?_, ?_⟩
      · rw [hW.cell (by exact block_lt_of_cell hc0), e]; exact hc0
      · rw [hW.cell (by exact block_lt_of_cell hc1), e]; exact hc1
  have HN : Hid (L.length ≤ 200) := hn
  have hne : ((L.length : Int) != (M.length : Int)) = false := by simp [hl]
  have hgt : decide ((200 : Int) < (L.length : Int)) = false := decide_eq_false (by omega)
  have hgt' : ((200 : Int) < (L.length : Int)) = False := eq_false (by omega)
  have HLM : Hid (L.length = M.length) := hl
  clear hW0 hX h3' hl
  go_enter Try.func8, Try.ntmps8
  go_wp2_with (fail)
  rw [HW0.out, HXX.out]
  clear hne hgt hgt'
  refine (singles_c _ L W0 HR0.out (by omega)).mono ?_
  rintro e w1 ⟨rfl, o1, b1⟩
  have HB1 : Hid (Below w.heap.size w w1) := belowCall HB0.out b1 HB0.out.size
  have HK1 : Hid (Blk w1 X #[.float .f32 p, .float .f32 q] 27) := HK0.out.below b1 HK0.out.lt
  obtain ⟨g, hg⟩ : ∃ g, W0.heap.size = g := ⟨_, rfl⟩
  have HGX : Hid (X < g ∧ w.heap.size ≤ g) := by rw [← hg]; exact ⟨HK0.out.lt, HB0.out.size⟩
  rw [hg] at o1 ⊢
  obtain ⟨n, hnn⟩ : ∃ n, L.length = n := ⟨_, rfl⟩
  have HNN : Hid (L.length = n) := hnn
  have HO1 : Hid (w1.ownsRow g 55 1 (.slice (some ⟨g, 0, none⟩) n n) n (L.flatMap cpC)) := by have := o1; rw [Og, hnn] at this; exact this
  have HJ1 : Hid (AiJ L (p, q) M L 0) := ⟨rfl, fun k hk => by omega, fun k _ => rfl⟩
  have hMn : M.length = n := by rw [← HLM.out, hnn]
  rw [hnn] at h1 hn ⊢
  rw [hMn] at h1' ⊢
  clear o1 b1 hg HB0 HK0 HR0 HR HW0 HXX hMn hnn
  go_wp2
  go_loopw [25] (fun i wr => ∃ (j : Nat) (us : List (Nat × Nat)), j ≤ n ∧ i = .int .i64 j ∧ Hid (AiJ L (p, q) M us j) ∧ Hid (wr.ownsRow g 55 1 (.slice (some ⟨g, 0, none⟩) n n) n (us.flatMap cpC)) ∧ Hid (Blk wr X #[.float .f32 p, .float .f32 q] 27) ∧ Hid (Below w.heap.size w wr)) (fun i _ => n - (intOf i).toNat)
  case atStart => exact ⟨0, L, Nat.zero_le _, rfl, HJ1.out, HO1.out, HK1.out, HB1.out⟩
  case round =>
    obtain ⟨j, us, hj, rfl, hJ, hO, hK, hB⟩ := hrel
    clear HJ1 HO1 HK1 HB1
    by_cases hlt : j < n
    case neg =>
      obtain rfl : j = n := by omega
      have HRU : Hid (Rg 1 cpC wr (.slice (some ⟨g, 0, none⟩) j j) us) := by
        have h1 : Og 1 cpC 55 g wr (.slice (some ⟨g, 0, none⟩) j j) us := by rw [Og, hJ.out.1, HNN.out]; exact hO.out
        exact h1.rd cpC_len
      have HUL : Hid (us.length = L.length ∧ ∀ k, k < L.length → AR (L.getD k (0, 0)) (p, q) (M.getD k (0, 0)) (us.getD k (0, 0))) := ⟨hJ.out.1, fun k hk => hJ.out.2.1 k (by have := HNN.out; omega)⟩
      clear hJ hO hK hlt hj
      go_wp2_with (fail)
      refine (samplesOf_c _ us wr HRU.out (by rw [HUL.out.1]; have := HN.out; omega)).mono ?_
      rintro e w2 ⟨v2, rfl, o2, b2⟩
      have HO2 : Hid (Og 2 smC 27 w.heap.size w2 v2 us) := o2.mono hB.out.size
      have HB2 : Hid (Below w.heap.size w w2) := belowCall hB.out b2 hB.out.size
      clear o2 b2
      go_wp2
      go_ret2
      exact ⟨_, us, rfl, HO2.out, HUL.out.1, HUL.out.2, HB2.out⟩
    case pos =>
    have hjl : j < L.length := by have := HNN.out; omega
    obtain ⟨⟨b, off⟩, rfl, hbl, -, -⟩ := HCE.out wr j hjl hB.out
    dsimp only at hbl
    obtain ⟨⟨n1, n2⟩, hnp⟩ : ∃ x, M.getD j (0, 0) = x := ⟨_, rfl⟩
    have HNP : Hid (M.getD j (0, 0) = (n1, n2)) := hnp
    have HCJ : Hid (∀ W, Below w.heap.size w W → W.cell? ⟨b, off + j * 2, none⟩ = some (.float .f32 n1) ∧ W.cell? ⟨b, off + j * 2 + 1, none⟩ = some (.float .f32 n2)) := fun W hW => by
      obtain ⟨bo, e, _, c0, c1⟩ := HCE.out W j hjl hW
      cases e; rw [hnp] at c0 c1; exact ⟨c0, c1⟩
    clear hnp
    have hul : us.length = n := by rw [hJ.out.1, HNN.out]
    obtain ⟨⟨x, y⟩, hxy⟩ : ∃ z, L.getD j (0, 0) = z := ⟨_, rfl⟩
    have HLJ : Hid (L.getD j (0, 0) = (x, y)) := hxy
    have hca : wr.cell? ⟨g, j, none⟩ = some (.complex .f32 x y) := by
      have h1 := (hO.out.cellAt (j * 1 + 0) (by omega)).trans (fm_at cpC_len us j 0 (by omega) (by decide))
      rw [Nat.mul_one, Nat.add_zero] at h1
      have e : us[j]'(by omega) = (x, y) := by rw [← getD_at us j (0, 0) (by omega), hJ.out.2.2 j (Nat.le_refl _), hxy]
      rw [e] at h1
      exact h1
    obtain ⟨S, hS⟩ : ∃ S : World → Prop, ∀ W, S W ↔ (Blk W X #[.float .f32 p, .float .f32 q] 27 ∧ W.cell? ⟨b, off + j * 2, none⟩ = some (.float .f32 n1) ∧ W.cell? ⟨b, off + j * 2 + 1, none⟩ = some (.float .f32 n2)) := ⟨_, fun _ => Iff.rfl⟩
    have y0 : ∀ W : At S, W.wd.cell? ⟨X, 0, none⟩ = some (.float .f32 p) := fun W => by have := ((hS _).1 W.ok).1.cell 0; simpa using this
    have y1 : ∀ W : At S, W.wd.cell? ⟨X, 1, none⟩ = some (.float .f32 q) := fun W => by have := ((hS _).1 W.ok).1.cell 1; simpa using this
    have y2 : ∀ W : At S, W.wd.cell? ⟨b, off + j * 2, none⟩ = some (.float .f32 n1) := fun W => ((hS _).1 W.ok).2.1
    have y3 : ∀ W : At S, W.wd.cell? ⟨b, off + j * 2 + 1, none⟩ = some (.float .f32 n2) := fun W => ((hS _).1 W.ok).2.2
    have HSS : Hid (∀ W, Blk W X #[.float .f32 p, .float .f32 q] 27 → Below w.heap.size w W → S W) := fun W hk hW => (hS _).2 ⟨hk, HCJ.out W hW⟩
    have HSD : Hid (S wr.drew) := HSS.out _ hK.out.drew hB.out.drew
    have ne : Nonempty (At S) := ⟨⟨_, HSD.out⟩⟩
    have hi1 : (0 : Int) ≤ (j : Int) := by omega
    have hi2 : (j : Int) < (n : Int) := by omega
    clear hS hxy
    go_wp2
    refine region_mixT [true, true, true, true, false, false, true, true, true, true, false, false, false, false] 12 4 S (by kernel_rfl) rfl (by kernel_rfl) (fun _ _ _ _ _ h => h) HSD.out ?_
    simp only [selT, selF]
    try simp only [Act.put]
    repeat (go_big_quiet_step (fail))
    refine wpQuiet_nil ?_
    clear y0 y1 y2 y3 ne hca
    refine tail_step ?_
    go_wp2_with (fail)
    refine (inSingle_c p q _).mono ?_
    rintro e w2 ⟨rfl, b2⟩
    have b2' : Below wr.heap.size wr w2 := (Below.refl _ _).drew.trans b2
    have HB2 : Hid (Below w.heap.size w w2) := belowCall hB.out b2' hB.out.size
    have HK2 : Hid (Blk w2 X #[.float .f32 p, .float .f32 q] 27) := hK.out.below b2' hK.out.lt
    have ho2 : w2.ownsRow g 55 1 (.slice (some ⟨g, 0, none⟩) n n) n (us.flatMap cpC) := World.ownsRow.kept (row := none) hO.out ⟨b2'.os, b2'.tape, b2'.output, b2'.size, fun i hi _ => b2'.block i hi⟩ (by simp [Value.ownBlock])
    have HO2 : Hid (w2.ownsRow g 55 1 (.slice (some ⟨g, 0, none⟩) n n) n (us.flatMap cpC)) := ho2
    have HS2 : Hid (S w2) := HSS.out _ HK2.out HB2.out
    clear b2 b2' ho2 hB hK hO
    go_wp2
    refine ⟨HS2.out, tail_step ?_⟩
    go_wp2_with (fail)
    refine (product_c x y p q _).mono ?_
    rintro e w3 ⟨x3, y3, nn, rfl, hpr, hw3⟩
    have HPR : Hid (PR x y p q x3 y3) := hpr
    have b3 : Below w2.heap.size w2 w3 := by rw [hw3]; exact below_drewN (Below.refl _ _) _
    have HB3 : Hid (Below w.heap.size w w3) := belowCall HB2.out b3 HB2.out.size
    have HK3 : Hid (Blk w3 X #[.float .f32 p, .float .f32 q] 27) := HK2.out.below b3 HK2.out.lt
    have ho3 : w3.ownsRow g 55 1 (.slice (some ⟨g, 0, none⟩) n n) n (us.flatMap cpC) := World.ownsRow.kept (row := none) HO2.out ⟨b3.os, b3.tape, b3.output, b3.size, fun i hi _ => b3.block i hi⟩ (by simp [Value.ownBlock])
    have HO3 : Hid (w3.ownsRow g 55 1 (.slice (some ⟨g, 0, none⟩) n n) n (us.flatMap cpC)) := ho3
    have HS3 : Hid (S w3) := HSS.out _ HK3.out HB3.out
    clear hpr hw3 b3 ho3 HB2 HK2 HO2 HS2
    go_wp2
    refine ⟨HS3.out, tail_step ?_⟩
    go_wp2_with (fail)
    refine (inSingle_c n1 n2 _).mono ?_
    rintro e w4 ⟨rfl, b4⟩
    have HB4 : Hid (Below w.heap.size w w4) := belowCall HB3.out b4 HB3.out.size
    have HK4 : Hid (Blk w4 X #[.float .f32 p, .float .f32 q] 27) := HK3.out.below b4 HK3.out.lt
    have ho4 : w4.ownsRow g 55 1 (.slice (some ⟨g, 0, none⟩) n n) n (us.flatMap cpC) := World.ownsRow.kept (row := none) HO3.out ⟨b4.os, b4.tape, b4.output, b4.size, fun i hi _ => b4.block i hi⟩ (by simp [Value.ownBlock])
    have HO4 : Hid (w4.ownsRow g 55 1 (.slice (some ⟨g, 0, none⟩) n n) n (us.flatMap cpC)) := ho4
    have HS4 : Hid (S w4) := HSS.out _ HK4.out HB4.out
    clear b4 ho4 HB3 HK3 HO3 HS3
    obtain ⟨o1, ho1⟩ : ∃ z, fv .add .f32 x3 n1 w4 = z := ⟨_, rfl⟩
    obtain ⟨o2, ho2⟩ : ∃ z, fv .add .f32 y3 n2 (w4.drewN (fn .add .f32 x3 n1)) = z := ⟨_, rfl⟩
    have HAR : Hid (AR (L.getD j (0, 0)) (p, q) (M.getD j (0, 0)) (o1, o2)) := by
      show AR _ _ _ _
      rw [HLJ.out, HNP.out]
      exact ⟨x3, y3, HPR.out, by rw [← ho1, fc_fv], by rw [← ho2, fc_fv]⟩
    have HFV : Hid (fv .add .f32 x3 n1 w4 = o1 ∧ fv .add .f32 y3 n2 (w4.drewN (fn .add .f32 x3 n1)) = o2) := ⟨ho1, ho2⟩
    obtain ⟨W5, hW5⟩ : ∃ W, w4.drewN (fn .add .f32 x3 n1 + fn .add .f32 y3 n2) = W := ⟨_, rfl⟩
    have HW5 : Hid (w4.drewN (fn .add .f32 x3 n1 + fn .add .f32 y3 n2) = W5) := hW5
    have b5 : Below w4.heap.size w4 W5 := by rw [← hW5]; exact below_drewN (Below.refl _ _) _
    have HB5 : Hid (Below w.heap.size w W5) := belowCall HB4.out b5 HB4.out.size
    have HK5 : Hid (Blk W5 X #[.float .f32 p, .float .f32 q] 27) := HK4.out.below b5 HK4.out.lt
    have ho5 : W5.ownsRow g 55 1 (.slice (some ⟨g, 0, none⟩) n n) n (us.flatMap cpC) := World.ownsRow.kept (row := none) HO4.out ⟨b5.os, b5.tape, b5.output, b5.size, fun i hi _ => b5.block i hi⟩ (by simp [Value.ownBlock])
    have HS5 : Hid (S W5) := HSS.out _ HK5.out HB5.out
    obtain ⟨y0, hd0⟩ : ∃ u, W5.cell? ⟨g, j, none⟩ = some u := ⟨_, by have := (ho5.cellAt (j * 1 + 0) (by omega)).trans (fm_at cpC_len us j 0 (by omega) (by decide)); rw [Nat.mul_one, Nat.add_zero] at this; exact this⟩
    have hf0 := ho5.frozenAt j
    have hOg : Og 1 cpC 55 g W5 (.slice (some ⟨g, 0, none⟩) us.length n) us := by rw [Og, hul]; exact ho5
    have hSS := own_setg cpC_len hOg j (by omega) (o1, o2)
    rw [Og, List.length_set, hul] at hSS
    simp only [setW, cpC, Nat.mul_one] at hSS
    have HSN : Hid ((W5.setCell ⟨g, j, none⟩ (.complex .f32 o1 o2)).ownsRow g 55 1 (.slice (some ⟨g, 0, none⟩) n n) n ((us.set j (o1, o2)).flatMap cpC)) := hSS
    have HBN : Hid (Below w.heap.size w (W5.setCell ⟨g, j, none⟩ (.complex .f32 o1 o2))) := HB5.out.setCell (by dsimp only; exact HGX.out.2) _
    have HKN : Hid (Blk (W5.setCell ⟨g, j, none⟩ (.complex .f32 o1 o2)) X #[.float .f32 p, .float .f32 q] 27) := HK5.out.other _ _ (by dsimp only; have := HGX.out.1; omega)
    have HJN : Hid (AiJ L (p, q) M (us.set j (o1, o2)) (j + 1)) := hJ.out.next hjl HAR.out
    clear ho1 ho2 hW5 b5 ho5 hOg hSS HB4 HK4 HO4 hJ hul HB5 HK5
    go_wp2
    refine ⟨HS4.out, tail_step ?_⟩
    go_wp2
    rw [HFV.out.1, HFV.out.2, HW5.out]
    refine ⟨HS5.out, tail_end ?_⟩
    go_wp2
    go_roundw
    case rel => exact ⟨j + 1, _, by omega, by go_num, HJN.out, HSN.out, HKN.out, HBN.out⟩
    case measure => simp [intOf]; omega

end Go.Proofs.Ytomgdlnpajfjhaa
