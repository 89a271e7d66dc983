/- Agents of a desk at work, written; no condition. -/
import Derived.Test.YtpmmgbinogokfaaLvA
namespace Go.Proofs.Ytpmmgbinogokfaa
open Go.RowKit Go.ChangeShapes Go.WideShapes Go.ChangeAt
set_option linter.unusedVariables false
set_option linter.unusedSimpArgs false
set_option maxRecDepth 8000
theorem fm_set1 {α : Type} {c : α → List Value} {n : Nat} (hc : ∀ x, (c x).length = n) (ls : List α) (i k : Nat) (x y : α) (v : Value) (hx : ls[i]? = some x) (hk : k < n) (hy : c y = (c x).set k v) : (ls.flatMap c).set (i * n + k) v = (ls.set i y).flatMap c := by
  obtain ⟨hi, hx'⟩ := List.getElem?_eq_some_iff.1 hx
  apply List.ext_getElem?
  intro j
  by_cases hj : j < ls.length * n
  · have hn : 0 < n := by omega
    have hq : j / n < ls.length := (Nat.div_lt_iff_lt_mul hn).2 hj
    have he : j = j / n * n + j % n := by rw [Nat.mul_comm]; exact (Nat.div_add_mod j n).symm
    have hm : j % n < n := Nat.mod_lt _ hn
    obtain ⟨a, ha⟩ : ∃ a, a = j / n := ⟨_, rfl⟩
    obtain ⟨b, hb⟩ : ∃ b, b = j % n := ⟨_, rfl⟩
    rw [← ha] at hq he
    rw [← hb] at hm he
    clear ha hb
    subst he
    rw [List.getElem?_set, fm_at hc (ls.set i y) a b (by simpa using hq) hm, fm_at hc ls a b hq hm, fm_len hc]
    by_cases hai : i = a
    · subst hai
      simp only [List.getElem_set_self, hy, hx', List.getElem?_set, hc]
      by_cases hkb : k = b
      · subst hkb; simp [hj, hk]
      · rw [if_neg (by omega), if_neg hkb]
    · have hne : ¬ i * n + k = a * n + b := by
        intro e
        rcases Nat.lt_or_gt_of_ne hai with h | h
        · have := Nat.mul_le_mul_right n (show i + 1 ≤ a by omega)
          rw [Nat.succ_mul] at this; omega
        · have := Nat.mul_le_mul_right n (show a + 1 ≤ i by omega)
          rw [Nat.succ_mul] at this; omega
      rw [if_neg hne]
      simp [List.getElem_set, hai]
  · rw [List.getElem?_eq_none (by rw [List.length_set, fm_len hc]; omega), List.getElem?_eq_none (by rw [fm_len hc]; simp; omega)]
theorem own_set1 {α : Type} {c : α → List Value} {n : Nat} (hc : ∀ x, (c x).length = n) {e : TypeId} {base b cap m : Nat} {w : World} {ls : List α} (h : Og n c e base w (.slice (some ⟨b, 0, none⟩) m cap) ls) (hm : ls.length = m) (i k : Nat) (x y : α) (v : Value) (hx : ls[i]? = some x) (hk : k < n) (hy : c y = (c x).set k v) :
    Og n c e base (w.setCell ⟨b, i * n + k, none⟩ v) (.slice (some ⟨b, 0, none⟩) m cap) (ls.set i y) := by
  subst hm
  have h1 := (World.ownsRow.stored h (i * n + k) v).1
  rw [fm_set1 hc ls i k x y v hx hk hy] at h1
  rw [Og, List.length_set]; exact h1
theorem set_self {α : Type} {ls : List α} {i : Nat} {x : α} (h : ls[i]? = some x) : ls.set i x = ls := by
  obtain ⟨hi, rfl⟩ := List.getElem?_eq_some_iff.1 h
  exact List.set_getElem_self hi
theorem set_at {α : Type} {ls : List α} {i : Nat} {x y : α} (h : ls[i]? = some x) : (ls.set i y)[i]? = some y := by
  obtain ⟨hi, rfl⟩ := List.getElem?_eq_some_iff.1 h
  simp [hi]
theorem Lv.agb {B : Nat} {W : World} {L : Nat} {now g : Int} {va vq vc : Value} {gs : List Ag} {qs : List Wt} {cs : List Int} (h : Lv B W L now g va vq vc gs qs cs) {i : Nat} (hi : i < gs.length) : ∃ b cap, va = .slice (some ⟨b, 0, none⟩) gs.length cap ∧ b ≠ L ∧ B ≤ b ∧ b < W.heap.size ∧ gs.length ≤ cap := by
  rcases h.ag.2 with ⟨-, h1⟩ | ⟨b, cap, cur, h1, h2, h3, h4, -⟩
  · omega
  · exact ⟨b, cap, h1, fun e => h.nva (by rw [h1]; simp [Value.ownBlock, e]), h2, Blk.lt h3, h4⟩
theorem Og.cells {B b m cap : Nat} {W : World} {gs : List Ag} (h : Og 3 agC 36 B W (.slice (some ⟨b, 0, none⟩) m cap) gs) (hm : gs.length = m) {i : Nat} {x : Ag} (hx : gs[i]? = some x) : W.cell? ⟨b, i * 3, none⟩ = some (.int .i64 x.1) ∧ W.cell? ⟨b, i * 3 + 1, none⟩ = some (.int .i64 x.2.1) ∧ W.cell? ⟨b, i * 3 + 2, none⟩ = some (.int .i64 x.2.2) ∧ W.frozen? ⟨b, i * 3, none⟩ = false ∧ W.frozen? ⟨b, i * 3 + 1, none⟩ = false ∧ W.frozen? ⟨b, i * 3 + 2, none⟩ = false := by
  subst hm
  obtain ⟨hi, hx'⟩ := List.getElem?_eq_some_iff.1 hx
  have h0 := (World.ownsRow.cellAt h (i * 3 + 0) (by omega)).trans (fm_at agC_len gs i 0 hi (by decide))
  have h1 := (World.ownsRow.cellAt h (i * 3 + 1) (by omega)).trans (fm_at agC_len gs i 1 hi (by decide))
  have h2 := (World.ownsRow.cellAt h (i * 3 + 2) (by omega)).trans (fm_at agC_len gs i 2 hi (by decide))
  rw [hx'] at h0 h1 h2
  exact ⟨h0, h1, h2, World.ownsRow.frozenAt h _, World.ownsRow.frozenAt h _, World.ownsRow.frozenAt h _⟩
set_option maxHeartbeats 3200000 in
theorem end_c (B L : Nat) (now g : Int) (va vq vc : Value) (gs : List Ag) (qs : List Wt) (cs : List Int) (i : Nat) (x : Ag) (w : World) (h : Lv B w L now g va vq vc gs qs cs) (hx : gs[i]? = some x) (hn : gs.length ≤ 1048576) :
   Calls Try.prog 83 #[.pointer (some ⟨L, 0, none⟩), .int .i64 i] w fun e w' => (x.2.1 = -1 ∧ e = .returned (.bool false) ∧ w' = w) ∨ (x.2.1 ≠ -1 ∧ e = .returned (.bool true) ∧ ∃ va', Lv B w' L now g va' vq vc (gs.set i (x.1, -1, now)) qs cs ∧ Below B w w') := by
  obtain ⟨hi, hx'⟩ := List.getElem?_eq_some_iff.1 hx
  obtain ⟨b, cap, rfl, hbL, hBb, hbw, hcap⟩ := h.agb hi
  obtain ⟨d0, d1, d2, f0, f1, f2⟩ := Og.cells h.ag rfl hx
  have HL : Hid (Lv B w L now g (.slice (some ⟨b, 0, none⟩) gs.length cap) vq vc gs qs cs) := h
  have HX : Hid (gs[i]? = some x) := hx
  obtain ⟨m, hm⟩ : ∃ m, gs.length = m := ⟨_, rfl⟩
  have HM : Hid (gs.length = m) := hm
  have HX' : Hid (gs[i] = x) := hx'
  rw [hm] at HL hi hn
  have c0 := h.blk.cell 0
  have c1 := h.blk.cell 1
  rw [hm] at c1
  simp at c0 c1
  obtain ⟨x1, x2, x3⟩ := x
  simp only at d0 d1 d2
  have hi1 : (0 : Int) ≤ (i : Int) := by omega
  have hi2 : (i : Int) < (m : Int) := by omega
  clear hx hx' h hm
  by_cases hb : x2 = -1
  · subst hb
    go_enter Try.func83, Try.ntmps83
    go_wp2
    go_ret
    exact .inl ⟨by trivial, rfl, rfl⟩
  have HNB : Hid (x2 ≠ -1) := hb
  have hbn : (x2 == -1) = false := by simp [hb]
  go_enter Try.func83, Try.ntmps83
  go_wp2
  clear d0 d1 d2 f0 f1 f2 c0 c1 hbn hb
  have HG : Hid (∀ W, w.grownBy W (some b) → W.cell? ⟨L, 0, none⟩ = some (.int .i64 now) ∧ W.cell? ⟨L, 1, none⟩ = some (.slice (some ⟨b, 0, none⟩) m cap)) := fun W hW => by
    have hk : Blk W L (L5 now (.slice (some ⟨b, 0, none⟩) m cap) vq g vc) 83 := by rw [Blk, hW.block L HL.out.blk.lt (by simp; exact Ne.symm hbL)]; exact HL.out.blk
    exact ⟨hk.cell 0, hk.cell 1⟩
  have HSL : Hid (∀ y : Ag, (gs.set i y).length = m) := fun y => by simpa using HM.out
  refine region_det [.pointer (some ⟨L, 0, none⟩), .pointer (some ⟨L, 0, none⟩), .pointer (some ⟨L, 1, none⟩), .slice (some ⟨b, 0, none⟩) m cap, .int .i64 i, .pointer (some ⟨L, 0, none⟩), .pointer (some ⟨L, 0, none⟩), .pointer (some ⟨L, 1, none⟩), .slice (some ⟨b, 0, none⟩) m cap, .int .i64 i,
      .pointer (some ⟨L, 0, none⟩), .pointer (some ⟨L, 0, none⟩), .pointer (some ⟨L, 0, none⟩), .int .i64 now, .pointer (some ⟨b, i * 3, none⟩), .pointer (some ⟨b, i * 3 + 1, none⟩), undef, .pointer (some ⟨b, i * 3, none⟩), .pointer (some ⟨b, i * 3 + 2, none⟩), undef]
    (fun d W => w.grownBy W (some b) ∧ Og 3 agC 36 B W (.slice (some ⟨b, 0, none⟩) m cap) (gs.set i (x1, (if d 16 = true then -1 else x2), (if d 19 = true then now else x3)))) (by kernel_rfl) (by kernel_rfl)
    (by simp only [putAll, Act.put, List.setIfInBounds_toArray, List.set_cons_succ, List.set_cons_zero]; exact rfl) ⟨⟨rfl, rfl, rfl, Nat.le_refl _, fun _ _ _ => rfl⟩, by simp only [Bool.false_eq_true, if_false]; rw [set_self HX.out]; exact HL.out.ag⟩ ⟨?_, ?_, ?_, ?_, ?_, ?_, ?_, ?_, ?_, ?_, ?_, ?_, ?_, ?_, ?_, ?_, ?_, ?_, ?_, ?_, trivial⟩ ?_
  case refine_21 =>
    rintro d W ⟨G, O⟩ hn
    have h16 := hn 16 (by decide)
    have h19 := hn 19 (by decide)
    rw [h16, h19] at O
    have HF : Hid (Lv B W L now g (.slice (some ⟨b, 0, none⟩) m cap) vq vc (gs.set i (x1, -1, now)) qs cs ∧ Below B w W) := by
      have hL := HL.out
      have hM := HM.out
      subst hM
      have := hL.setAgent W (gs.set i (x1, -1, now)) (by simp) G (by simpa using O)
      exact ⟨by simpa using this, grown_below G (by omega) (fun k e => by cases e; exact hBb)⟩
    clear G O hn h16 h19
    go_wp2
    go_ret
    exact .inr ⟨HNB.out, rfl, _, HF.out⟩
  all_goals (try (rintro d W ⟨G, O⟩ hn hd; obtain ⟨c0, c1⟩ := HG.out W G))
  iterate 16
    · go_wp2
      exact ⟨rfl, rfl, G, O⟩
  · obtain ⟨d0, d1, d2, f0, f1, f2⟩ := Og.cells O (HSL.out _) (set_at HX.out)
    have hO := own_set1 agC_len O (HSL.out _) i 1 _ (x1, -1, (if d 19 = true then now else x3)) (.int .i64 (-1)) (set_at HX.out) (by decide) rfl
    rw [List.set_set] at hO
    have HO : Hid (Og 3 agC 36 B (W.setCell ⟨b, i * 3 + 1, none⟩ (.int .i64 (-1))) (.slice (some ⟨b, 0, none⟩) m cap) (gs.set i (x1, -1, (if d 19 = true then now else x3)))) := hO
    have HGG : Hid (w.grownBy (W.setCell ⟨b, i * 3 + 1, none⟩ (.int .i64 (-1))) (some b)) := grown_trans G (grown_set' _ _ _ _)
    clear hO O G
    go_wp2
    exact ⟨rfl, rfl, HGG.out, HO.out⟩
  iterate 2
    · go_wp2
      exact ⟨rfl, rfl, G, O⟩
  · obtain ⟨d0, d1, d2, f0, f1, f2⟩ := Og.cells O (HSL.out _) (set_at HX.out)
    have hO := own_set1 agC_len O (HSL.out _) i 2 _ (x1, (if d 16 = true then -1 else x2), now) (.int .i64 now) (set_at HX.out) (by decide) rfl
    rw [List.set_set] at hO
    have HO : Hid (Og 3 agC 36 B (W.setCell ⟨b, i * 3 + 2, none⟩ (.int .i64 now)) (.slice (some ⟨b, 0, none⟩) m cap) (gs.set i (x1, (if d 16 = true then -1 else x2), now))) := hO
    have HGG : Hid (w.grownBy (W.setCell ⟨b, i * 3 + 2, none⟩ (.int .i64 now)) (some b)) := grown_trans G (grown_set' _ _ _ _)
    clear hO O G
    go_wp2
    exact ⟨rfl, rfl, HGG.out, HO.out⟩
end Go.Proofs.Ytpmmgbinogokfaa
