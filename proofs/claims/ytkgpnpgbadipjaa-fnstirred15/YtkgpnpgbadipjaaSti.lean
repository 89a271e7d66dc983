/- Stir15, as the program has it; no condition. -/
import Derived.Test.YtkgpnpgbadipjaaSta
namespace Go.Proofs.Ytkgpnpgbadipjaa
open Go.RowKit Go.ChangeShapes Go.WideShapes Go.ChangeAt
set_option linter.unusedVariables false
set_option linter.unusedSimpArgs false
set_option maxRecDepth 8000

set_option maxHeartbeats 12800000 in
theorem stirI_c (v : Value) (zs : List Int) (key : Int) (w : World) (h : Rd .i64 w v zs) : Calls Try.prog 9 #[v, .int .i64 key] w (StR zs key w) := by
  have HR : Hid (Rd .i64 w v zs) := h
  obtain ⟨a, cap, rfl, h1, h2, h3⟩ := h
  unfold maxLen at h2
  have HE : Hid (stB zs key = (bbB zs && decide (1 ≤ key ∧ key ≤ 65535))) := rfl
  have HNO : Hid (stB zs key = false → ∀ W, Below w.heap.size w W → StR zs key w (.returned (.tuple #[.slice none 0 0, .bool false])) W) := fun e W hW => ⟨_, by rw [e], by rw [stR_no e]; exact Ow.nil .i64 3 _ _, hW⟩
  go_enter Try.func9, Try.ntmps9
  go_wp2_with (fail)
  refine (burstBits_c _ zs _ HR.out).mono ?_
  rintro e w1 ⟨rfl, b1⟩
  have HB1 : Hid (Below w.heap.size w w1) := b1
  obtain ⟨q, hq⟩ : ∃ q, bbB zs = q := ⟨_, rfl⟩
  rw [hq]
  have HQ : Hid (bbB zs = q) := hq
  clear b1 hq
  cases q with
  | false =>
    have HF : Hid (stB zs key = false) := by show _ = _; rw [HE.out, HQ.out]; rfl
    clear h3
    go_wp2
    go_ret2
    exact HNO.out HF.out _ HB1.out
  | true =>
  have hl := bbB_len HQ.out
  go_wp2_with (fail)
  refine (key_c key _).mono ?_
  rintro e w2 ⟨rfl, hw⟩
  rw [hw]
  clear hw w2
  by_cases hk : 1 ≤ key ∧ key ≤ 65535
  case neg =>
    have HF : Hid (stB zs key = false) := by show _ = _; rw [HE.out, decide_eq_false hk]; simp
    rw [decide_eq_false hk]
    clear h3 hk
    go_wp2
    go_ret2
    exact HNO.out HF.out _ HB1.out
  have HT : Hid (stB zs key = true) := by show _ = _; rw [HE.out, HQ.out, decide_eq_true hk]; rfl
  rw [decide_eq_true hk]
  have HSB : Hid (∀ k, 0 ≤ sr key k ∧ sr key k ≤ 65535) := sr_bd (by omega) hk.2
  obtain ⟨T, hT⟩ : ∃ T, stF zs key = T := ⟨_, rfl⟩
  obtain ⟨L, hL⟩ : ∃ L, zs.length = L := ⟨_, rfl⟩
  have HLZ : Hid (zs.length = L) := hL
  have HTL : Hid (T.length = L) := by show _ = _; rw [← hT, stF_len, hL]
  have HTA : Hid (∀ k, k < L → T.getD k 0 = xo (zs.getD k 0) (sr key k % 2)) := fun k hk => by rw [← hT, stF_at _ _ _ (by rw [hL]; exact hk)]; rfl
  have HTR : Hid (stR zs key = T) := by show _ = _; rw [stR_yes HT.out, hT]
  have HCE : Hid (∀ W k, k < L → Below w.heap.size w W → ∃ bo : Nat × Nat, a = some ⟨bo.1, bo.2, none⟩ ∧ bo.1 < w.heap.size ∧ W.cell? ⟨bo.1, bo.2 + k, none⟩ = some (.int .i64 (zs.getD k 0))) := fun W k hk hW => by
    rcases h3 with h3 | ⟨b, off, h0, h4⟩
    · rw [h3] at hL; simp at hL; omega
    · exact ⟨(b, off), h0, block_lt_of_cell (h4 k (by rw [hL]; exact hk)), by rw [hW.cell (block_lt_of_cell (h4 k (by rw [hL]; exact hk)))]; exact h4 k (by rw [hL]; exact hk)⟩
  rw [hL] at hl h1 ⊢
  clear hT hL hk h3 HE HNO
  obtain ⟨P, hP⟩ : ∃ P, w1.heap.size = P := ⟨_, rfl⟩
  have HP : Hid (w1.heap.size = P) := hP
  have HPw : Hid (w.heap.size ≤ P) := by show _ ≤ _; rw [← hP]; exact HB1.out.size
  obtain ⟨W0, hW0⟩ : ∃ W, w1.alloc (Obj.cells #[.int .i64 key, .int .i64 46080] 42) = W := ⟨_, rfl⟩
  have HW0 : Hid (w1.alloc (Obj.cells #[.int .i64 key, .int .i64 46080] 42) = W0) := hW0
  have HK0 : Hid (Blk W0 P #[.int .i64 (sr key 0), .int .i64 46080] 42) := by rw [← hW0, ← hP]; exact Blk.new _ _ _
  have HS0 : Hid (W0.heap.size = P + 1) := by show W0.heap.size = P + 1; rw [← hW0, ← hP]; simp
  have HB0 : Hid (Below w.heap.size w W0) := by rw [← hW0]; exact HB1.out.alloc HB1.out.size _
  clear hW0 hP HB1
  obtain ⟨i0, hi, hz0, hz1, hz2⟩ := info_parts toIInfo
  go_wp2_with (at_make; rw [HW0.out]; refine wpList_make_full _ rfl _ _ 24 rfl W0.heap.size 3 i0 (.int .i64 0) 1 Try.underlying24 hi hz0 hz1 .i64 .i64 _ _ L rfl rfl rfl rfl (by rw [hz2]; omega) (by unfold maxLen; omega) (Nat.le_refl _) ?_)
  intro w2 ho hg
  rw [HS0.out] at ho ⊢
  rw [HP.out]
  have hx : Ow .i64 3 (P + 1) w2 (.slice (some ⟨P + 1, 0, none⟩) L L) (mix T 0) := by
    have e : (mix T 0).map (Value.int .i64) = (madeCells #[Value.int .i64 0] L).toList := by rw [toList_madeCells_one]; simp [mix, HTL.out]
    rw [Ow, mix_len T 0 (Nat.zero_le _), HTL.out, e]; exact ho
  have HX : Hid (Ow .i64 3 (P + 1) w2 (.slice (some ⟨P + 1, 0, none⟩) L L) (mix T 0)) := hx
  have HB2 : Hid (Below w.heap.size w w2) := HB0.out.trans (grown_below hg (by rw [HS0.out]; have := HPw.out; omega) (by simp))
  have HK2 : Hid (Blk w2 P #[.int .i64 (sr key 0), .int .i64 46080] 42) := by
    have := HK0.out
    rw [Blk, hg.block P (by rw [HS0.out]; omega) (by simp)]; exact this
  clear hx ho hg HB0 HK0
  go_wp2
  go_loopw [24] (fun i wr => ∃ j : Nat, j ≤ L ∧ i = .int .i64 j ∧ Hid (Ow .i64 3 (P + 1) wr (.slice (some ⟨P + 1, 0, none⟩) L L) (mix T j)) ∧ Hid (Blk wr P #[.int .i64 (sr key j), .int .i64 46080] 42) ∧ Hid (Below w.heap.size w wr)) (fun i _ => L - (intOf i).toNat)
  case atStart => exact ⟨0, Nat.zero_le _, rfl, HX.out, HK2.out, HB2.out⟩
  case round =>
    obtain ⟨j, hj, rfl, hO, hK, hB⟩ := hrel
    clear HX HK2 HB2
    by_cases hlt : j < L
    case neg =>
      obtain rfl : j = L := by omega
      have HOF : Hid (Ow .i64 3 w.heap.size wr (.slice (some ⟨P + 1, 0, none⟩) j j) (stR zs key)) := by
        have h1 := hO.out
        rw [show mix T j = T by have := mix_full T; rw [HTL.out] at this; exact this] at h1
        show Ow _ _ _ _ _ _
        rw [HTR.out]
        exact h1.mono (by have := HPw.out; omega)
      clear hO hlt hj
      go_wp2
      go_ret2
      exact ⟨_, by rw [HT.out]; rfl, HOF.out, hB.out⟩
    case pos =>
    obtain ⟨⟨b, off⟩, rfl, hbl, -⟩ := HCE.out wr j hlt hB.out
    obtain ⟨z, hz⟩ : ∃ z, zs.getD j 0 = z := ⟨_, rfl⟩
    have HCJ : Hid (∀ W, Below w.heap.size w W → W.cell? ⟨b, off + j, none⟩ = some (.int .i64 z)) := fun W hW => by
      obtain ⟨bo, e, _, hc⟩ := HCE.out W j hlt hW
      cases e; rw [hz] at hc; exact hc
    have HTJ : Hid (T.getD j 0 = xo z (sr key j % 2)) := by show _ = _; rw [HTA.out j hlt, hz]
    have sb := HSB.out j
    obtain ⟨S, hS⟩ : ∃ S : World → Prop, ∀ W, S W ↔ W.cell? ⟨b, off + j, none⟩ = some (.int .i64 z) := ⟨_, fun _ => Iff.rfl⟩
    have y0 : ∀ W : At S, W.wd.cell? ⟨b, off + j, none⟩ = some (.int .i64 z) := fun W => (hS _).1 W.ok
    have HSX : Hid (∀ W, Below w.heap.size w W → S W) := fun W hW => (hS _).2 (HCJ.out W hW)
    have HSD : Hid (S wr.drew) := HSX.out _ hB.out.drew
    have ne : Nonempty (At S) := ⟨⟨_, HSD.out⟩⟩
    have hi1 : (0 : Int) ≤ (j : Int) := by omega
    have hi2 : (j : Int) < (L : Int) := by omega
    clear hS hz
    go_wp2
    refine region_mixT [true, true, true, true, true, true, false, false, false, false] 9 3 S (by kernel_rfl) rfl (by kernel_rfl) (fun _ _ _ _ _ h => h) HSD.out ?_
    simp only [selT, selF]
    try simp only [Act.put]
    repeat (go_big_quiet_step (fail))
    refine wpQuiet_nil ?_
    clear y0 ne
    refine tail_step ?_
    go_wp2_with (fail)
    refine (turn_c P (sr key j) 46080 _ hK.out.drew sb.1 sb.2).mono ?_
    rintro e w3 ⟨rfl, k3, g3⟩
    have HK3 : Hid (Blk w3 P #[.int .i64 (sr key (j + 1)), .int .i64 46080] 42) := k3
    have HB3 : Hid (Below w.heap.size w w3) := hB.out.drew.trans (grown_below g3 (by have := hB.out.size; exact this) (fun k e => by cases e; exact HPw.out))
    have ho3 : Ow .i64 3 (P + 1) w3 (.slice (some ⟨P + 1, 0, none⟩) L L) (mix T j) := World.ownsRow.kept (row := some P) (show wr.drew.ownsRow _ _ _ _ _ _ from hO.out) g3 (by simp [Value.ownBlock])
    have HO3 : Hid (Ow .i64 3 (P + 1) w3 (.slice (some ⟨P + 1, 0, none⟩) L L) (mix T j)) := ho3
    have HS3 : Hid (S w3) := HSX.out _ HB3.out
    clear k3 g3 ho3 hK hB hO sb
    have hml : (mix T j).length = L := by rw [mix_len T j (by rw [HTL.out]; exact hj), HTL.out]
    have hw3 : w3.ownsRow (P + 1) 3 1 (.slice (some ⟨P + 1, 0, none⟩) L L) L ((mix T j).map (Value.int .i64)) := by have := HO3.out; rw [Ow, hml] at this; exact this
    obtain ⟨y0, hd0⟩ : ∃ u, w3.cell? ⟨P + 1, j, none⟩ = some u := ⟨_, by rw [hw3.cellAt j (by omega), List.getElem?_map, List.getElem?_eq_getElem (by rw [hml]; exact hlt)]; rfl⟩
    have hf0 := hw3.frozenAt j
    obtain ⟨x, hx⟩ : ∃ x, xo z (sr key j % 2) = x := ⟨_, rfl⟩
    have hx' : bits .xor .i64 z (sr key j % 2) = x := hx
    have HS : Hid (Ow .i64 3 (P + 1) (w3.setCell ⟨P + 1, j, none⟩ (.int .i64 x)) (.slice (some ⟨P + 1, 0, none⟩) L L) (mix T (j + 1))) := by
      have h1 := (hw3.stored j (.int .i64 x)).1
      have e := mix_set .i64 T j (by rw [HTL.out]; exact hlt)
      rw [HTJ.out, hx] at e
      rw [Ow, mix_len T (j + 1) (by rw [HTL.out]; omega), HTL.out, ← e]
      exact h1
    have HBn : Hid (Below w.heap.size w (w3.setCell ⟨P + 1, j, none⟩ (.int .i64 x))) := HB3.out.setCell (by dsimp only; have := HPw.out; omega) _
    have HKn : Hid (Blk (w3.setCell ⟨P + 1, j, none⟩ (.int .i64 x)) P #[.int .i64 (sr key (j + 1)), .int .i64 46080] 42) := HK3.out.other _ _ (by dsimp only; omega)
    clear hx hw3 HO3 HB3 HK3 HTJ hml
    go_wp2
    refine ⟨HS3.out, tail_step ?_⟩
    go_wp2
    refine ⟨HS3.out, tail_step ?_⟩
    go_wp2
    refine ⟨HS3.out, tail_end ?_⟩
    go_wp2
    go_roundw
    case rel => exact ⟨j + 1, by omega, by go_num, HS.out, HKn.out, HBn.out⟩
    case measure => simp [intOf]; omega

end Go.Proofs.Ytkgpnpgbadipjaa
