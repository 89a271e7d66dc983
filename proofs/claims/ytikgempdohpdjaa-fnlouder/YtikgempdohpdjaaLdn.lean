/- nextLoudness; no condition. -/
import Derived.Test.YtikgempdohpdjaaLdg
namespace Go.Proofs.Ytikgempdohpdjaa
open Go.RowKit Go.ChangeShapes Go.WideShapes Go.ChangeAt
set_option linter.unusedVariables false
set_option linter.unusedSimpArgs false
set_option maxRecDepth 8000

set_option maxHeartbeats 800000 in
theorem div_c (n d : Int) (w : World) (h1 : 1 ≤ n) (h2 : n ≤ 10000000000000) (h3 : 1 ≤ d) (h4 : d ≤ 1000) : Calls Try.prog 73 #[.int .i64 n, .int .i64 d] w fun e w' => e = .returned (.int .i64 ((n + d - 1) / d)) ∧ w' = w := by
  have hd : (d == 0) = false := by simp; omega
  have hd0 : ¬ d = 0 := by omega
  go_enter Try.func73, Try.ntmps73
  go_wp2
  go_ret
  exact ⟨rfl, rfl⟩
set_option maxHeartbeats 6400000 in
theorem nextI_c (v : Value) (g : List (List Int)) (noise want : Int) (u : Value) (loud : List Int) (w : World) (h : Rn w v g) (h' : Rd .i64 w u loud) (hg : GOk g) (n1 : 1 ≤ noise) (n2 : noise ≤ 1000) (w1 : 1 ≤ want) (w2 : want ≤ 100) (hl : LOk g.length loud) :
    Calls Try.prog 60 #[v, .int .i64 noise, .int .i64 want, u] w fun e w' => ∃ v', e = .returned v' ∧ Ow .i64 3 w.heap.size w' v' (nxL g noise want loud) ∧ Below w.heap.size w w' := by
  obtain ⟨a, cap, rfl, h1, h2, -⟩ := id h
  obtain ⟨a', cap', rfl, h1', h2', -⟩ := id h'
  unfold maxLen at h2 h2'
  have HC : Hid (∀ W j, j < g.length → Below w.heap.size w W → ∃ (bo : Nat × Nat) (u : Value), a = some ⟨bo.1, bo.2, none⟩ ∧ bo.1 < w.heap.size ∧ W.cell? ⟨bo.1, bo.2 + j, none⟩ = some u ∧ Rd .i64 w u (g.getD j [])) := rnc h
  have HC' : Hid (∀ W j, j < loud.length → Below w.heap.size w W → ∃ bo : Nat × Nat, a' = some ⟨bo.1, bo.2, none⟩ ∧ bo.1 < w.heap.size ∧ W.cell? ⟨bo.1, bo.2 + j, none⟩ = some (.int .i64 (loud.getD j 0))) := rdc h'
  have HG : Hid (GOk g) := hg
  have HSB : Hid (∀ i, i < g.length → ∀ k, k ≤ g.length → 1 ≤ nxS (g.getD i []) noise loud i k ∧ nxS (g.getD i []) noise loud i k ≤ 1000 + 1000000000 * (k : Int)) := fun i hi k hk => nxS_bd hg n1 n2 hl hi k hk
  have HLB : Hid (∀ k, k < g.length → 1 ≤ loud.getD k 0 ∧ loud.getD k 0 ≤ 1000000) := hl.bd
  obtain ⟨T, hT⟩ : ∃ T, nxL g noise want loud = T := ⟨_, rfl⟩
  have HTL : Hid (T.length = g.length) := by show _ = _; rw [← hT, nxL_len]
  have HTA : Hid (∀ i, i < g.length → T.getD i 0 = cap6 ((want * nxS (g.getD i []) noise loud i g.length + (g.getD i []).getD i 0 - 1) / (g.getD i []).getD i 0)) := fun i hi => by rw [← hT, nxL_at _ _ _ _ _ hi]; rfl
  have hlo := hg.hi
  have hll := hl.len
  rw [hT]
  rw [hll] at h1' HC' ⊢
  obtain ⟨L, hL⟩ : ∃ L, g.length = L := ⟨_, rfl⟩
  have HGL : Hid (g.length = L) := hL
  have HRL : Hid (∀ i, i < L → (g.getD i []).length = L) := fun i hi => by rw [← hL]; exact hg.len i (by omega)
  have HBD : Hid (∀ i k, i < L → k < L → 0 ≤ (g.getD i []).getD k 0 ∧ (g.getD i []).getD k 0 ≤ 1000) := fun i k hi hk => hg.bd i k (by omega) (by omega)
  have HDG : Hid (∀ i, i < L → 1 ≤ (g.getD i []).getD i 0) := fun i hi => hg.dg i (by omega)
  rw [hL] at h1 h1' hlo HC HC' HSB HLB HTL HTA ⊢
  clear h h' hg hl hT hL hll HG HGL
  obtain ⟨i0, hi, hz0, hz1, hz2⟩ := info_parts toIInfo
  go_enter Try.func60, Try.ntmps60
  go_wp2_with (at_make; refine wpList_make_full _ rfl _ _ 27 rfl w.heap.size 3 i0 (.int .i64 0) 1 Try.underlying27 hi hz0 hz1 .i64 .i64 _ _ L rfl rfl rfl rfl (by rw [hz2]; omega) (by unfold maxLen; omega) (Nat.le_refl _) ?_)
  intro w2' ho hgm
  have HX : Hid (w2'.ownsRow w.heap.size 3 1 (.slice (some ⟨w.heap.size, 0, none⟩) L L) L ((mix T 0).map (Value.int .i64))) := by
    have e : (mix T 0).map (Value.int .i64) = (madeCells #[Value.int .i64 0] L).toList := by rw [toList_madeCells_one]; simp [mix, HTL.out]
    show World.ownsRow _ _ _ _ _ _ _
    rw [e]; exact ho
  have HB2 : Hid (Below w.heap.size w w2') := grown_below hgm (Nat.le_refl _) (by simp)
  clear ho hgm hi hz0 hz1 hz2
  go_wp2
  go_loopw [20] (fun i wr => ∃ j : Nat, j ≤ L ∧ i = .int .i64 j ∧ Hid (wr.ownsRow w.heap.size 3 1 (.slice (some ⟨w.heap.size, 0, none⟩) L L) L ((mix T j).map (Value.int .i64))) ∧ Hid (Below w.heap.size w wr)) (fun i _ => L - (intOf i).toNat)
  case atStart => exact ⟨0, Nat.zero_le _, rfl, HX.out, HB2.out⟩
  case round =>
    obtain ⟨j, hj, rfl, hO, hB⟩ := hrel
    clear HX HB2
    by_cases hlt : j < L
    case neg =>
      obtain rfl : j = L := by omega
      have HOF : Hid (Ow .i64 3 w.heap.size wr (.slice (some ⟨w.heap.size, 0, none⟩) j j) T) := by
        have h1 := hO.out
        rw [show mix T j = T by have := mix_full T; rw [HTL.out] at this; exact this] at h1
        show World.ownsRow _ _ _ _ _ _ _
        rw [HTL.out]; exact h1
      clear hO hlt hj
      go_wp2
      go_ret
      exact ⟨_, rfl, HOF.out, hB.out⟩
    case pos =>
    obtain ⟨⟨b, off⟩, ur, rfl, hbl, hc0, hrd⟩ := HC.out wr j hlt hB.out
    dsimp only at hc0 hbl
    have HRJ : Hid ((g.getD j []).length = L) := HRL.out j hlt
    have HBJ : Hid (∀ k, k < L → 0 ≤ (g.getD j []).getD k 0 ∧ (g.getD j []).getD k 0 ≤ 1000) := fun k hk => HBD.out j k hlt hk
    have hdg := HDG.out j hlt
    have HSJ : Hid (∀ k, k ≤ L → 1 ≤ nxS (g.getD j []) noise loud j k ∧ nxS (g.getD j []) noise loud j k ≤ 1000 + 1000000000 * (k : Int)) := HSB.out j hlt
    have HTJ : Hid (T.getD j 0 = cap6 ((want * nxS (g.getD j []) noise loud j L + (g.getD j []).getD j 0 - 1) / (g.getD j []).getD j 0)) := HTA.out j hlt
    obtain ⟨p, hp⟩ : ∃ p, g.getD j [] = p := ⟨_, rfl⟩
    rw [hp] at hrd HRJ HBJ hdg HSJ HTJ
    obtain ⟨au, cu, hvu, hu1, hu2, -⟩ := id hrd
    rw [hvu] at hc0 hrd
    have HCU : Hid (∀ W j, j < p.length → Below w.heap.size w W → ∃ bo : Nat × Nat, au = some ⟨bo.1, bo.2, none⟩ ∧ bo.1 < w.heap.size ∧ W.cell? ⟨bo.1, bo.2 + j, none⟩ = some (.int .i64 (p.getD j 0))) := rdc hrd
    rw [HRJ.out] at hc0 HCU hu1
    unfold maxLen at hu2
    have hi0 : (0 : Int) ≤ (j : Int) := by omega
    have hi1 : (j : Int) < (L : Int) := by omega
    clear hp hvu hrd HC HSB HTA HRL HBD HDG
    go_wp2
    go_loop [12, 28] (fun s i => ∃ k : Nat, k ≤ L ∧ i = .int .i64 k ∧ s = .int .i64 (nxS p noise loud j k)) (fun _ i => L - (intOf i).toNat)
    case atStart => exact ⟨0, Nat.zero_le _, rfl, rfl⟩
    case round =>
      obtain ⟨k, hk, rfl, rfl⟩ := hrel
      by_cases hkt : k < L
      case pos =>
        obtain ⟨⟨b', off'⟩, rfl, hbl', hc1⟩ := HCU.out wr k hkt hB.out
        obtain ⟨⟨b2, off2⟩, rfl, hbl2, hc2⟩ := HC'.out wr k hkt hB.out
        dsimp only at hc1 hbl' hc2 hbl2
        have sb := HSJ.out k hk
        have b1 := HBJ.out k hkt
        have b2' := HLB.out k hkt
        have HN : Hid (nxS p noise loud j (k + 1) = if k = j then nxS p noise loud j k else nxS p noise loud j k + p.getD k 0 * loud.getD k 0) := rfl
        have p0 : 0 ≤ p.getD k 0 * loud.getD k 0 := Int.mul_nonneg b1.1 (by omega)
        have p1 : p.getD k 0 * loud.getD k 0 ≤ 1000 * 1000000 := Int.mul_le_mul b1.2 b2'.2 (by omega) (by omega)
        obtain ⟨x, hx⟩ : ∃ x, p.getD k 0 = x := ⟨_, rfl⟩
        obtain ⟨y, hy⟩ : ∃ y, loud.getD k 0 = y := ⟨_, rfl⟩
        obtain ⟨s, hs⟩ : ∃ s, nxS p noise loud j k = s := ⟨_, rfl⟩
        rw [hx] at hc1 b1 HN p0 p1
        rw [hy] at hc2 b2' HN p0 p1
        rw [hs] at sb HN ⊢
        have hk0 : (0 : Int) ≤ (k : Int) := by omega
        have hk1 : (k : Int) < (L : Int) := by omega
        clear hx hy hs
        by_cases hkj : k = j
        case pos =>
          have hq : ((k : Int) != (j : Int)) = false := by simp; omega
          have HN2 : Hid (nxS p noise loud j (k + 1) = s) := by show _ = _; rw [HN.out, if_pos hkj]
          have HKJ : Hid (k = j) := hkj
          clear hkj HN
          go_wp2
          go_round
          case rel => exact ⟨k + 1, by omega, by go_num, by rw [HN2.out]⟩
          case measure => simp [intOf]; omega
        case neg =>
        have hq : ((k : Int) != (j : Int)) = true := by rw [bne_iff_ne]; omega
        have HN2 : Hid (nxS p noise loud j (k + 1) = s + x * y) := by show _ = _; rw [HN.out, if_neg hkj]
        clear hkj HN
        go_wp2
        go_round
        case rel => exact ⟨k + 1, by omega, by go_num, by rw [HN2.out]⟩
        case measure => simp [intOf]; omega
      case neg =>
      obtain rfl : k = L := by omega
      obtain ⟨⟨b', off'⟩, rfl, hbl', hc1⟩ := HCU.out wr j hlt hB.out
      dsimp only at hc1 hbl'
      have sb := HSJ.out k (Nat.le_refl _)
      have db := HBJ.out j hlt
      obtain ⟨d, hd⟩ : ∃ d, p.getD j 0 = d := ⟨_, rfl⟩
      obtain ⟨s, hs⟩ : ∃ s, nxS p noise loud j k = s := ⟨_, rfl⟩
      rw [hd] at hc1 hdg HTJ db
      rw [hs] at sb HTJ ⊢
      have m0 : 1 ≤ want * s := Int.mul_pos (by omega) (by omega)
      have m1 : want * s ≤ 100 * 20000000000 := Int.mul_le_mul w2 (by omega) (by omega) (by omega)
      clear hd hs hkt hk
      go_wp2_with (fail)
      refine (div_c (want * s) d _ m0 (by omega) hdg db.2).mono ?_
      rintro e w3 ⟨rfl, hw⟩
      rw [hw]
      clear hw w3
      obtain ⟨q, hq⟩ : ∃ q, (want * s + d - 1) / d = q := ⟨_, rfl⟩
      rw [hq] at HTJ ⊢
      have hml : (mix T j).length = k := by rw [mix_len T j (by rw [HTL.out]; exact hj), HTL.out]
      obtain ⟨y0, hd0⟩ : ∃ y, wr.cell? ⟨w.heap.size, j, none⟩ = some y := ⟨_, by rw [hO.out.cellAt j (by omega), List.getElem?_map, List.getElem?_eq_getElem (by rw [hml]; exact hlt)]; rfl⟩
      have hf0 := hO.out.frozenAt j
      have HS : Hid ((wr.setCell ⟨w.heap.size, j, none⟩ (.int .i64 (if 1000000 < q then 1000000 else q))).ownsRow w.heap.size 3 1 (.slice (some ⟨w.heap.size, 0, none⟩) k k) k ((mix T (j + 1)).map (Value.int .i64))) := by
        have h1 := (hO.out.stored j (.int .i64 (if 1000000 < q then 1000000 else q))).1
        have e := mix_set .i64 T j (by rw [HTL.out]; exact hlt)
        rw [HTJ.out] at e
        unfold cap6 at e
        show World.ownsRow _ _ _ _ _ _ _
        rw [← e]; exact h1
      have HBn : Hid (Below w.heap.size w (wr.setCell ⟨w.heap.size, j, none⟩ (.int .i64 (if 1000000 < q then 1000000 else q)))) := hB.out.setCell (by dsimp only; omega) _
      clear hq hO hB hml
      go_wp2
      go_roundw
      case rel => exact ⟨j + 1, by omega, by go_num, HS.out, HBn.out⟩
      case measure => simp [intOf]; omega

end Go.Proofs.Ytikgempdohpdjaa
