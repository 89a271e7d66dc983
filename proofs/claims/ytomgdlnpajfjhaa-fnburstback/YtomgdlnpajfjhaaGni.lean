/- Gain15, as the program has it; no condition. -/
import Derived.Test.YtomgdlnpajfjhaaGna
import Derived.Test.YtomgdlnpajfjhaaDet
namespace Go.Proofs.Ytomgdlnpajfjhaa
open Go.RowKit Go.ChangeShapes Go.WideShapes Go.ChangeAt
set_option linter.unusedVariables false
set_option linter.unusedSimpArgs false
set_option maxRecDepth 8000

theorem place_c (n pl : Nat) (h : n ≤ 1000) (hg : 26 ≤ n) (hdv : ((n : Int) - 26).tdiv 2 = (pl : Int)) (w : World) : Calls Try.prog 33 #[.int .i64 n] w fun e w' => e = .returned (.int .i64 pl) ∧ w' = w := by
  have hb : -100 ≤ (pl : Int) ∧ (pl : Int) ≤ 2000 := by
    rw [Int.tdiv_eq_ediv_of_nonneg (by omega)] at hdv; omega
  go_enter Try.func33, Try.ntmps33
  go_wp2
  go_ret
  exact ⟨rfl, rfl⟩
structure Rgi (Wd : World) (sl : Value) (sv : Value) (hh : Int) (ls : List (Nat × Nat)) (T : List (Nat × Nat)) (d : Nat → Bool) (W : World) (v0 v1 v2 v3 v4 v5 v6 v7 v8 v9 v10 v11 v12 : Value) (ta : Option Addr) (tc : Nat) (x : Nat) (y : Nat) (X : Nat) : Prop where
  bel : Below Wd.heap.size Wd W
  f0 : d 0 = true → v0 = sl
  f1 : d 1 = true → v1 = .int .i64 hh
  f2 : d 2 = true → v2 = .int .i64 hh
  f3 : d 3 = true → v3 = .int .i64 (hh + 26)
  f4 : d 4 = true → v4 = sv
  f5 : d 5 = true → v5 = .slice ta 26 tc
  r5 : d 5 = true → d 6 = false → Rg 2 smC W (.slice ta 26 tc) T
  f6 : d 6 = true → v6 = .tuple #[.agg #[.float .f64 x, .float .f64 y], .bool true]
  hx : d 6 = true → fc .f64 x = mtF pXR ls T 26
  hy : d 6 = true → fc .f64 y = mtF pXI ls T 26
  f7 : d 7 = true → v7 = .tuple #[.agg #[.float .f64 x, .float .f64 y], .bool true]
  f8 : d 8 = true → v8 = .agg #[.float .f64 x, .float .f64 y]
  f9 : d 9 = true → v9 = .bool true
  f10 : d 10 = true → v10 = .pointer (some ⟨X, 0, none⟩)
  k10 : d 10 = true → d 11 = false → Blk W X #[.float .f64 0, .float .f64 0] 38
  x10 : d 10 = true → Wd.heap.size ≤ X
  k11 : d 11 = true → Blk W X #[.float .f64 x, .float .f64 y] 38
  f12 : d 12 = true → v12 = .bool true
  g7_6 : d 7 = true → d 6 = true
  g8_6 : d 8 = true → d 6 = true
  g11_6 : d 11 = true → d 6 = true
  g11_10 : d 11 = true → d 10 = true
def RgiS (Wd : World) (sl : Value) (sv : Value) (hh : Int) (ls : List (Nat × Nat)) (T : List (Nat × Nat)) (d : Nat → Bool) (q : List Value) (W : World) : Prop := ∃ v0 v1 v2 v3 v4 v5 v6 v7 v8 v9 v10 v11 v12 ta tc x y X, q = [v0, v1, v2, v3, v4, v5, v6, v7, v8, v9, v10, v11, v12] ∧ Rgi Wd sl sv hh ls T d W v0 v1 v2 v3 v4 v5 v6 v7 v8 v9 v10 v11 v12 ta tc x y X
theorem Rgi.below {Wd : World} {sl : Value} {sv : Value} {hh : Int} {ls : List (Nat × Nat)} {T : List (Nat × Nat)} {d : Nat → Bool} {W W' : World} {v0 v1 v2 v3 v4 v5 v6 v7 v8 v9 v10 v11 v12 : Value} {ta : Option Addr} {tc : Nat} {x : Nat} {y : Nat} {X : Nat} (h : Rgi Wd sl sv hh ls T d W v0 v1 v2 v3 v4 v5 v6 v7 v8 v9 v10 v11 v12 ta tc x y X) (hb : Below W.heap.size W W') : Rgi Wd sl sv hh ls T d W' v0 v1 v2 v3 v4 v5 v6 v7 v8 v9 v10 v11 v12 ta tc x y X :=
  { h with
    bel := belowCall h.bel hb h.bel.size
    r5 := fun e0 e1 => (h.r5 e0 e1).below hb
    k10 := fun e0 e1 => (h.k10 e0 e1).below hb (h.k10 e0 e1).lt
    k11 := fun e0 => (h.k11 e0).below hb (h.k11 e0).lt
  }
set_option maxHeartbeats 12800000 in
theorem gainI_c (v : Value) (ls : List (Nat × Nat)) (w : World) (h : Rg 2 smC w v ls) : Calls Try.prog 10 #[v] w (GnR ls w) := by
  have hsf := storeF
  have hop := run_fop (P := Try.prog) .quo (by simp)
  have HR : Hid (Rg 2 smC w v ls) := h
  obtain ⟨a, cap, rfl, h1, h2, h3⟩ := h
  have h2' := h2
  unfold maxLen at h2
  obtain ⟨R, hR⟩ : ∃ R, w.heap.size = R := ⟨_, rfl⟩
  have HRR : Hid (w.heap.size = R) := hR
  obtain ⟨W0, hW0⟩ : ∃ W, w.alloc (Obj.cells #[.float .f64 0, .float .f64 0] 38) = W := ⟨_, rfl⟩
  have HW0 : Hid (w.alloc (Obj.cells #[.float .f64 0, .float .f64 0] 38) = W0) := hW0
  have HB0 : Hid (Below R w W0) := by rw [← hW0, ← hR]; exact (Below.refl _ _).alloc (Nat.le_refl _) _
  have HK0 : Hid (Blk W0 R #[.float .f64 0, .float .f64 0] 38) := by rw [← hW0, ← hR]; exact Blk.new _ _ _
  clear hW0 hR
  have HG : Hid (gnB ls = (decide (27 ≤ (ls.length : Int)) && decide ((ls.length : Int) ≤ 200))) := rfl
  obtain ⟨q, hq⟩ : ∃ q, gnB ls = q := ⟨_, rfl⟩
  have HQ : Hid (gnB ls = q) := hq
  clear hq
  go_enter Try.func10, Try.ntmps10
  go_wp2_with (fail)
  rw [HW0.out]
  refine (within_c _ _ _ _).mono ?_
  rintro e w1 ⟨rfl, hw⟩
  rw [hw, ← HG.out, HQ.out]
  clear hw w1
  cases q with
  | false =>
    have z0 := HK0.out.cell 0
    have z1 := HK0.out.cell 1
    have f0 := HK0.out.frozen 0
    have f1 := HK0.out.frozen 1
    simp at z0 z1
    rw [HRR.out]
    go_wp2
    have hk := Blk.set2 HK0.out (.float .f64 0) (.float .f64 0)
    refine bodyPost_ret (results_W2 rfl _ _ _ _ _ _ rfl rfl hk) rfl ⟨0, 0, by rw [HQ.out]; rfl, ?_, ?_, ⟨by decide, by decide⟩, below_set2 (by have := HB0.out; rw [HRR.out]; exact this) _ (by rw [HRR.out]; exact Nat.le_refl _) _ _⟩
    · unfold gnF; rw [HQ.out]; exact fc0
    · unfold gnF; rw [HQ.out]; exact fc0
  | true =>
  have hl := HQ.out
  rw [HG.out, Bool.and_eq_true, decide_eq_true_eq, decide_eq_true_eq] at hl
  have l0 : 27 ≤ ls.length := by have := hl.1; omega
  have l1 : ls.length ≤ 200 := by have := hl.2; omega
  rcases h3 with h3 | ⟨b, off, rfl, h4⟩
  · subst h3; simp at l0
  obtain ⟨pl, hpl⟩ : ∃ pl : Nat, gnH ls = pl := ⟨_, rfl⟩
  have hb : pl + 26 ≤ ls.length := by rw [← hpl]; unfold gnH; omega
  have hdv : ((ls.length : Int) - 26).tdiv 2 = (pl : Int) := by rw [Int.tdiv_eq_ediv_of_nonneg (by omega), ← hpl]; unfold gnH; omega
  have HSVw : Hid (Rg 2 smC w (.slice (some ⟨b, off + pl * 2, none⟩) 26 (cap - pl)) (gnS ls)) := by
    show Rg 2 smC w _ _
    unfold gnS; rw [hpl]
    exact Rg.sub h4 h1 h2' pl 26 hb rfl
  have HMB0 := gnS_B l0
  obtain ⟨T, hT⟩ : ∃ T, trL = T := ⟨_, rfl⟩
  have HTL : Hid (T.length = 26) := by show T.length = 26; rw [← hT]; exact trL_len
  have HTR : Hid (∀ W, Calls Try.prog 40 #[] W fun e w' => ∃ v', e = .returned v' ∧ Og 2 smC 27 W.heap.size w' v' T ∧ Below W.heap.size W w') := by intro W; rw [← hT]; exact trainI_c W
  have HFX : Hid (gnF pXR ls = fo .quo .f64 (mtF pXR (gnS ls) T 26) (some c52)) := by show _ = _; unfold gnF; rw [HQ.out, if_pos rfl, hT]
  have HFI : Hid (gnF pXI ls = fo .quo .f64 (mtF pXI (gnS ls) T 26) (some c52)) := by show _ = _; unfold gnF; rw [HQ.out, if_pos rfl, hT]
  rw [hT] at HMB0
  obtain ⟨ks, hks⟩ : ∃ ks, gnS ls = ks := ⟨_, rfl⟩
  rw [hks] at HSVw HMB0 HFX HFI
  have HMB : Hid (mtB ks T = true ∧ mtN ks T = 26) := HMB0
  obtain ⟨n, hnl⟩ : ∃ n, ls.length = n := ⟨_, rfl⟩
  rw [hnl] at hdv hb l0 l1 h1 ⊢
  clear HMB0 hks hT hl h4 HG hnl hpl
  rw [HRR.out]
  have i0 : (0 : Int) ≤ (pl : Int) := by omega
  have i1 : (pl : Int) + 26 ≤ (cap : Int) := by omega
  have i2 : (pl : Int) ≤ 200 := by omega
  have HBw : Hid (Below w.heap.size w W0) := by have := HB0.out; rw [← HRR.out] at this; exact this
  have HSV : Hid (∀ W, Below W0.drew.heap.size W0.drew W → Rg 2 smC W (.slice (some ⟨b, off + pl * 2, none⟩) 26 (cap - pl)) ks) := fun W hW => (HSVw.out.below HBw.out).below (w := W0.drew) hW
  go_wp2_with (fail)
  refine (place_c n pl (by omega) (by omega) hdv _).mono ?_
  rintro e w1 ⟨rfl, hw⟩
  rw [hw]
  clear hw w1 hdv
  go_wp2
  refine region_vals [undef, undef, undef, undef, undef, undef, undef, undef, undef, undef, undef, undef, undef] (RgiS (W0.drew) (.slice (some ⟨b, off, none⟩) n cap) (.slice (some ⟨b, off + pl * 2, none⟩) 26 (cap - pl)) (((pl : Nat) : Int)) (ks) (T)) (by kernel_rfl) (by kernel_rfl) ?_ ⟨?_, ?_, ?_, ?_, ?_, ?_, ?_, ?_, ?_, ?_, ?_, ?_, ?_, trivial⟩ ?_
  · refine ⟨_, _, _, _, _, _, _, _, _, _, _, _, _, none, 0, 0, 0, 0, rfl, ⟨(Below.refl _ _), ?_, ?_, ?_, ?_, ?_, ?_, ?_, ?_, ?_, ?_, ?_, ?_, ?_, ?_, ?_, ?_, ?_, ?_, ?_, ?_, ?_, ?_⟩⟩ <;> simp
  · rintro d vs W ⟨v0, v1, v2, v3, v4, v5, v6, v7, v8, v9, v10, v11, v12, ta, tc, x, y, X, rfl, H⟩ hn hd
    simp only [putAll, Act.put, List.setIfInBounds_toArray, List.set_cons_succ, List.set_cons_zero]
    have HH1 : Hid (Rgi (W0.drew) (.slice (some ⟨b, off, none⟩) n cap) (.slice (some ⟨b, off + pl * 2, none⟩) 26 (cap - pl)) (((pl : Nat) : Int)) (ks) (T) d W v0 v1 v2 v3 v4 v5 v6 v7 v8 v9 v10 v11 v12 ta tc x y X) := H
    clear H
    have HHN : Hid (d 0 = false) := hn
    clear hd hn
    go_wp2
    have H0 := HH1.out
    have H := HH1.out
    have hn := HHN.out
    refine ⟨rfl, [(.slice (some ⟨b, off, none⟩) n cap), v1, v2, v3, v4, v5, v6, v7, v8, v9, v10, v11, v12], ?_, (.slice (some ⟨b, off, none⟩) n cap), v1, v2, v3, v4, v5, v6, v7, v8, v9, v10, v11, v12, ta, tc, x, y, X, rfl, ⟨H.bel, (fun _ => rfl), (by have h := H.f1; simpa [doneSet] using h), (by have h := H.f2; simpa [doneSet] using h), (by have h := H.f3; simpa [doneSet] using h), (by have h := H.f4; simpa [doneSet] using h), (by have h := H.f5; simpa [doneSet] using h), (by have h := H.r5; simpa [doneSet] using h), (by have h := H.f6; simpa [doneSet] using h), (by have h := H.hx; simpa [doneSet] using h), (by have h := H.hy; simpa [doneSet] using h), (by have h := H.f7; simpa [doneSet] using h), (by have h := H.f8; simpa [doneSet] using h), (by have h := H.f9; simpa [doneSet] using h), (by have h := H.f10; simpa [doneSet] using h), (by have h := H.k10; simpa [doneSet] using h), (by have h := H.x10; simpa [doneSet] using h), (by have h := H.k11; simpa [doneSet] using h), (by have h := H.f12; simpa [doneSet] using h), (by have h := H.g7_6; simpa [doneSet] using h), (by have h := H.g8_6; simpa [doneSet] using h), (by have h := H.g11_6; simpa [doneSet] using h), (by have h := H.g11_10; simpa [doneSet] using h)⟩⟩
    simp only [putAll, Act.put, List.setIfInBounds_toArray, List.set_cons_succ, List.set_cons_zero]
    all_goals rfl
  · rintro d vs W ⟨v0, v1, v2, v3, v4, v5, v6, v7, v8, v9, v10, v11, v12, ta, tc, x, y, X, rfl, H⟩ hn hd
    simp only [putAll, Act.put, List.setIfInBounds_toArray, List.set_cons_succ, List.set_cons_zero]
    have HH1 : Hid (Rgi (W0.drew) (.slice (some ⟨b, off, none⟩) n cap) (.slice (some ⟨b, off + pl * 2, none⟩) 26 (cap - pl)) (((pl : Nat) : Int)) (ks) (T) d W v0 v1 v2 v3 v4 v5 v6 v7 v8 v9 v10 v11 v12 ta tc x y X) := H
    clear H
    have HHN : Hid (d 1 = false) := hn
    clear hd hn
    go_wp2
    have H0 := HH1.out
    have H := HH1.out
    have hn := HHN.out
    refine ⟨rfl, [v0, .int .i64 (((pl : Nat) : Int)), v2, v3, v4, v5, v6, v7, v8, v9, v10, v11, v12], ?_, v0, .int .i64 (((pl : Nat) : Int)), v2, v3, v4, v5, v6, v7, v8, v9, v10, v11, v12, ta, tc, x, y, X, rfl, ⟨H.bel, (by have h := H.f0; simpa [doneSet] using h), (fun _ => rfl), (by have h := H.f2; simpa [doneSet] using h), (by have h := H.f3; simpa [doneSet] using h), (by have h := H.f4; simpa [doneSet] using h), (by have h := H.f5; simpa [doneSet] using h), (by have h := H.r5; simpa [doneSet] using h), (by have h := H.f6; simpa [doneSet] using h), (by have h := H.hx; simpa [doneSet] using h), (by have h := H.hy; simpa [doneSet] using h), (by have h := H.f7; simpa [doneSet] using h), (by have h := H.f8; simpa [doneSet] using h), (by have h := H.f9; simpa [doneSet] using h), (by have h := H.f10; simpa [doneSet] using h), (by have h := H.k10; simpa [doneSet] using h), (by have h := H.x10; simpa [doneSet] using h), (by have h := H.k11; simpa [doneSet] using h), (by have h := H.f12; simpa [doneSet] using h), (by have h := H.g7_6; simpa [doneSet] using h), (by have h := H.g8_6; simpa [doneSet] using h), (by have h := H.g11_6; simpa [doneSet] using h), (by have h := H.g11_10; simpa [doneSet] using h)⟩⟩
    simp only [putAll, Act.put, List.setIfInBounds_toArray, List.set_cons_succ, List.set_cons_zero]
    all_goals rfl
  · rintro d vs W ⟨v0, v1, v2, v3, v4, v5, v6, v7, v8, v9, v10, v11, v12, ta, tc, x, y, X, rfl, H⟩ hn hd
    simp only [putAll, Act.put, List.setIfInBounds_toArray, List.set_cons_succ, List.set_cons_zero]
    have HH1 : Hid (Rgi (W0.drew) (.slice (some ⟨b, off, none⟩) n cap) (.slice (some ⟨b, off + pl * 2, none⟩) 26 (cap - pl)) (((pl : Nat) : Int)) (ks) (T) d W v0 v1 v2 v3 v4 v5 v6 v7 v8 v9 v10 v11 v12 ta tc x y X) := H
    clear H
    have HHN : Hid (d 2 = false) := hn
    clear hd hn
    go_wp2
    have H0 := HH1.out
    have H := HH1.out
    have hn := HHN.out
    refine ⟨rfl, [v0, v1, .int .i64 (((pl : Nat) : Int)), v3, v4, v5, v6, v7, v8, v9, v10, v11, v12], ?_, v0, v1, .int .i64 (((pl : Nat) : Int)), v3, v4, v5, v6, v7, v8, v9, v10, v11, v12, ta, tc, x, y, X, rfl, ⟨H.bel, (by have h := H.f0; simpa [doneSet] using h), (by have h := H.f1; simpa [doneSet] using h), (fun _ => rfl), (by have h := H.f3; simpa [doneSet] using h), (by have h := H.f4; simpa [doneSet] using h), (by have h := H.f5; simpa [doneSet] using h), (by have h := H.r5; simpa [doneSet] using h), (by have h := H.f6; simpa [doneSet] using h), (by have h := H.hx; simpa [doneSet] using h), (by have h := H.hy; simpa [doneSet] using h), (by have h := H.f7; simpa [doneSet] using h), (by have h := H.f8; simpa [doneSet] using h), (by have h := H.f9; simpa [doneSet] using h), (by have h := H.f10; simpa [doneSet] using h), (by have h := H.k10; simpa [doneSet] using h), (by have h := H.x10; simpa [doneSet] using h), (by have h := H.k11; simpa [doneSet] using h), (by have h := H.f12; simpa [doneSet] using h), (by have h := H.g7_6; simpa [doneSet] using h), (by have h := H.g8_6; simpa [doneSet] using h), (by have h := H.g11_6; simpa [doneSet] using h), (by have h := H.g11_10; simpa [doneSet] using h)⟩⟩
    simp only [putAll, Act.put, List.setIfInBounds_toArray, List.set_cons_succ, List.set_cons_zero]
    all_goals rfl
  · rintro d vs W ⟨v0, v1, v2, v3, v4, v5, v6, v7, v8, v9, v10, v11, v12, ta, tc, x, y, X, rfl, H⟩ hn hd
    simp only [putAll, Act.put, List.setIfInBounds_toArray, List.set_cons_succ, List.set_cons_zero]
    have h2 : d 2 = true := hd { on := 2, ground := .data } (by simp) rfl
    obtain rfl := H.f2 h2
    have HH1 : Hid (Rgi (W0.drew) (.slice (some ⟨b, off, none⟩) n cap) (.slice (some ⟨b, off + pl * 2, none⟩) 26 (cap - pl)) (((pl : Nat) : Int)) (ks) (T) d W v0 v1 (.int .i64 (((pl : Nat) : Int))) v3 v4 v5 v6 v7 v8 v9 v10 v11 v12 ta tc x y X) := H
    clear H
    have HHN : Hid (d 3 = false) := hn
    have HHD : Hid (d 2 = true) := h2
    clear hd hn h2
    go_wp2
    have H0 := HH1.out
    have H := HH1.out
    have hn := HHN.out
    have h2 := HHD.out
    refine ⟨rfl, [v0, v1, .int .i64 (((pl : Nat) : Int)), .int .i64 ((((pl : Nat) : Int)) + 26), v4, v5, v6, v7, v8, v9, v10, v11, v12], ?_, v0, v1, .int .i64 (((pl : Nat) : Int)), .int .i64 ((((pl : Nat) : Int)) + 26), v4, v5, v6, v7, v8, v9, v10, v11, v12, ta, tc, x, y, X, rfl, ⟨H.bel, (by have h := H.f0; simpa [doneSet] using h), (by have h := H.f1; simpa [doneSet] using h), (fun _ => rfl), (fun _ => rfl), (by have h := H.f4; simpa [doneSet] using h), (by have h := H.f5; simpa [doneSet] using h), (by have h := H.r5; simpa [doneSet] using h), (by have h := H.f6; simpa [doneSet] using h), (by have h := H.hx; simpa [doneSet] using h), (by have h := H.hy; simpa [doneSet] using h), (by have h := H.f7; simpa [doneSet] using h), (by have h := H.f8; simpa [doneSet] using h), (by have h := H.f9; simpa [doneSet] using h), (by have h := H.f10; simpa [doneSet] using h), (by have h := H.k10; simpa [doneSet] using h), (by have h := H.x10; simpa [doneSet] using h), (by have h := H.k11; simpa [doneSet] using h), (by have h := H.f12; simpa [doneSet] using h), (by have h := H.g7_6; simpa [doneSet] using h), (by have h := H.g8_6; simpa [doneSet] using h), (by have h := H.g11_6; simpa [doneSet] using h), (by have h := H.g11_10; simpa [doneSet] using h)⟩⟩
    simp only [putAll, Act.put, List.setIfInBounds_toArray, List.set_cons_succ, List.set_cons_zero]
    all_goals rfl
  · rintro d vs W ⟨v0, v1, v2, v3, v4, v5, v6, v7, v8, v9, v10, v11, v12, ta, tc, x, y, X, rfl, H⟩ hn hd
    simp only [putAll, Act.put, List.setIfInBounds_toArray, List.set_cons_succ, List.set_cons_zero]
    have h0 : d 0 = true := hd { on := 0, ground := .data } (by simp) rfl
    have h1 : d 1 = true := hd { on := 1, ground := .data } (by simp) rfl
    have h3 : d 3 = true := hd { on := 3, ground := .data } (by simp) rfl
    obtain rfl := H.f0 h0
    obtain rfl := H.f1 h1
    obtain rfl := H.f3 h3
    have HH1 : Hid (Rgi (W0.drew) (.slice (some ⟨b, off, none⟩) n cap) (.slice (some ⟨b, off + pl * 2, none⟩) 26 (cap - pl)) (((pl : Nat) : Int)) (ks) (T) d W ((.slice (some ⟨b, off, none⟩) n cap)) (.int .i64 (((pl : Nat) : Int))) v2 (.int .i64 ((((pl : Nat) : Int)) + 26)) v4 v5 v6 v7 v8 v9 v10 v11 v12 ta tc x y X) := H
    clear H
    have HHN : Hid (d 4 = false) := hn
    have HHD : Hid (d 0 = true ∧ d 1 = true ∧ d 3 = true) := ⟨h0, h1, h3⟩
    clear hd hn h0 h1 h3
    go_wp2
    have H0 := HH1.out
    have H := HH1.out
    have hn := HHN.out
    have h0 := HHD.out.1
    have h1 := HHD.out.2.1
    have h3 := HHD.out.2.2
    refine ⟨rfl, [(.slice (some ⟨b, off, none⟩) n cap), .int .i64 (((pl : Nat) : Int)), v2, .int .i64 ((((pl : Nat) : Int)) + 26), (.slice (some ⟨b, off + pl * 2, none⟩) 26 (cap - pl)), v5, v6, v7, v8, v9, v10, v11, v12], ?_, (.slice (some ⟨b, off, none⟩) n cap), .int .i64 (((pl : Nat) : Int)), v2, .int .i64 ((((pl : Nat) : Int)) + 26), (.slice (some ⟨b, off + pl * 2, none⟩) 26 (cap - pl)), v5, v6, v7, v8, v9, v10, v11, v12, ta, tc, x, y, X, rfl, ⟨H.bel, (fun _ => rfl), (fun _ => rfl), (by have h := H.f2; simpa [doneSet] using h), (fun _ => rfl), (fun _ => rfl), (by have h := H.f5; simpa [doneSet] using h), (by have h := H.r5; simpa [doneSet] using h), (by have h := H.f6; simpa [doneSet] using h), (by have h := H.hx; simpa [doneSet] using h), (by have h := H.hy; simpa [doneSet] using h), (by have h := H.f7; simpa [doneSet] using h), (by have h := H.f8; simpa [doneSet] using h), (by have h := H.f9; simpa [doneSet] using h), (by have h := H.f10; simpa [doneSet] using h), (by have h := H.k10; simpa [doneSet] using h), (by have h := H.x10; simpa [doneSet] using h), (by have h := H.k11; simpa [doneSet] using h), (by have h := H.f12; simpa [doneSet] using h), (by have h := H.g7_6; simpa [doneSet] using h), (by have h := H.g8_6; simpa [doneSet] using h), (by have h := H.g11_6; simpa [doneSet] using h), (by have h := H.g11_10; simpa [doneSet] using h)⟩⟩
    simp only [putAll, Act.put, List.setIfInBounds_toArray, List.set_cons_succ, List.set_cons_zero]
    all_goals rw [show pl + 26 - pl = 26 by omega]
  · rintro d vs W ⟨v0, v1, v2, v3, v4, v5, v6, v7, v8, v9, v10, v11, v12, ta, tc, x, y, X, rfl, H⟩ hn hd
    simp only [putAll, Act.put, List.setIfInBounds_toArray, List.set_cons_succ, List.set_cons_zero]
    have HH1 : Hid (Rgi (W0.drew) (.slice (some ⟨b, off, none⟩) n cap) (.slice (some ⟨b, off + pl * 2, none⟩) 26 (cap - pl)) (((pl : Nat) : Int)) (ks) (T) d W v0 v1 v2 v3 v4 v5 v6 v7 v8 v9 v10 v11 v12 ta tc x y X) := H
    clear H
    have HHN : Hid (d 5 = false) := hn
    clear hd hn
    go_wp2_with (fail)
    refine (HTR.out W).mono ?_
    rintro e W3 ⟨tv, rfl, o7, b7⟩
    obtain ⟨ta5, tc5, hform⟩ := o7.form
    rw [HTL.out] at hform
    subst hform
    have HB7 : Hid (Below W.heap.size W W3) := b7
    have HR7 : Hid (Rg 2 smC W3 (.slice ta5 26 tc5) T) := o7.rd smC_len
    clear b7 o7
    go_wp2
    have H0 := HH1.out
    have H := HH1.out.below HB7.out
    have hn := HHN.out
    refine ⟨rfl, [v0, v1, v2, v3, v4, .slice ta5 26 tc5, v6, v7, v8, v9, v10, v11, v12], ?_, v0, v1, v2, v3, v4, .slice ta5 26 tc5, v6, v7, v8, v9, v10, v11, v12, ta5, tc5, x, y, X, rfl, ⟨H.bel, (by have h := H.f0; simpa [doneSet] using h), (by have h := H.f1; simpa [doneSet] using h), (by have h := H.f2; simpa [doneSet] using h), (by have h := H.f3; simpa [doneSet] using h), (by have h := H.f4; simpa [doneSet] using h), (fun _ => rfl), (fun _ _ => HR7.out), (by have h := H.f6; simpa [doneSet] using h), (by have h := H.hx; simpa [doneSet] using h), (by have h := H.hy; simpa [doneSet] using h), (by have h := H.f7; simpa [doneSet] using h), (by have h := H.f8; simpa [doneSet] using h), (by have h := H.f9; simpa [doneSet] using h), (by have h := H.f10; simpa [doneSet] using h), (by have h := H.k10; simpa [doneSet] using h), (by have h := H.x10; simpa [doneSet] using h), (by have h := H.k11; simpa [doneSet] using h), (by have h := H.f12; simpa [doneSet] using h), (by have h := H.g7_6; simpa [doneSet] using h), (by have h := H.g8_6; simpa [doneSet] using h), (by have h := H.g11_6; simpa [doneSet] using h), (by have h := H.g11_10; simpa [doneSet] using h)⟩⟩
    simp only [putAll, Act.put, List.setIfInBounds_toArray, List.set_cons_succ, List.set_cons_zero]
    all_goals rfl
  · rintro d vs W ⟨v0, v1, v2, v3, v4, v5, v6, v7, v8, v9, v10, v11, v12, ta, tc, x, y, X, rfl, H⟩ hn hd
    simp only [putAll, Act.put, List.setIfInBounds_toArray, List.set_cons_succ, List.set_cons_zero]
    have h4 : d 4 = true := hd { on := 4, ground := .data } (by simp) rfl
    have h5 : d 5 = true := hd { on := 5, ground := .data } (by simp) rfl
    have HR5 : Hid (Rg 2 smC W (.slice ta 26 tc) T) := H.r5 h5 hn
    have HRV : Hid (Rg 2 smC W (.slice (some ⟨b, off + pl * 2, none⟩) 26 (cap - pl)) ks) := HSV.out W H.bel
    obtain rfl := H.f4 h4
    obtain rfl := H.f5 h5
    have HH1 : Hid (Rgi (W0.drew) (.slice (some ⟨b, off, none⟩) n cap) (.slice (some ⟨b, off + pl * 2, none⟩) 26 (cap - pl)) (((pl : Nat) : Int)) (ks) (T) d W v0 v1 v2 v3 ((.slice (some ⟨b, off + pl * 2, none⟩) 26 (cap - pl))) (.slice ta 26 tc) v6 v7 v8 v9 v10 v11 v12 ta tc x y X) := H
    clear H
    have HHN : Hid (d 6 = false) := hn
    have HHD : Hid (d 4 = true ∧ d 5 = true) := ⟨h4, h5⟩
    clear hd hn h4 h5
    go_wp2_with (fail)
    refine (matchI_c _ _ ks T W HRV.out HR5.out).mono ?_
    rintro e W3 ⟨x4, y4, rfl, hx4, hy4, b7⟩
    rw [HMB.out.2] at hx4 hy4
    rw [HMB.out.1]
    have HB7 : Hid (Below W.heap.size W W3) := b7
    have HX4 : Hid (fc .f64 x4 = mtF pXR ks T 26) := hx4
    have HY4 : Hid (fc .f64 y4 = mtF pXI ks T 26) := hy4
    clear b7 hx4 hy4
    go_wp2
    have H0 := HH1.out
    have H := HH1.out.below HB7.out
    have hn := HHN.out
    have h4 := HHD.out.1
    have h5 := HHD.out.2
    refine ⟨rfl, [v0, v1, v2, v3, (.slice (some ⟨b, off + pl * 2, none⟩) 26 (cap - pl)), .slice ta 26 tc, .tuple #[.agg #[.float .f64 x4, .float .f64 y4], .bool true], v7, v8, v9, v10, v11, v12], ?_, v0, v1, v2, v3, (.slice (some ⟨b, off + pl * 2, none⟩) 26 (cap - pl)), .slice ta 26 tc, .tuple #[.agg #[.float .f64 x4, .float .f64 y4], .bool true], v7, v8, v9, v10, v11, v12, ta, tc, x4, y4, X, rfl, ⟨H.bel, (by have h := H.f0; simpa [doneSet] using h), (by have h := H.f1; simpa [doneSet] using h), (by have h := H.f2; simpa [doneSet] using h), (by have h := H.f3; simpa [doneSet] using h), (fun _ => rfl), (fun _ => rfl), (fun _ e => absurd e (by simp [doneSet])), (fun _ => rfl), (fun _ => HX4.out), (fun _ => HY4.out), (fun e => absurd (H0.g7_6 (by simpa [doneSet] using e)) (by rw [hn]; simp)), (fun e => absurd (H0.g8_6 (by simpa [doneSet] using e)) (by rw [hn]; simp)), (by have h := H.f9; simpa [doneSet] using h), (by have h := H.f10; simpa [doneSet] using h), (by have h := H.k10; simpa [doneSet] using h), (by have h := H.x10; simpa [doneSet] using h), (fun e => absurd (H0.g11_6 (by simpa [doneSet] using e)) (by rw [hn]; simp)), (by have h := H.f12; simpa [doneSet] using h), (fun _ => by simp [doneSet]), (fun _ => by simp [doneSet]), (fun _ => by simp [doneSet]), (by have h := H.g11_10; simpa [doneSet] using h)⟩⟩
    simp only [putAll, Act.put, List.setIfInBounds_toArray, List.set_cons_succ, List.set_cons_zero]
    all_goals rfl
  · rintro d vs W ⟨v0, v1, v2, v3, v4, v5, v6, v7, v8, v9, v10, v11, v12, ta, tc, x, y, X, rfl, H⟩ hn hd
    simp only [putAll, Act.put, List.setIfInBounds_toArray, List.set_cons_succ, List.set_cons_zero]
    have h6 : d 6 = true := hd { on := 6, ground := .data } (by simp) rfl
    obtain rfl := H.f6 h6
    have HH1 : Hid (Rgi (W0.drew) (.slice (some ⟨b, off, none⟩) n cap) (.slice (some ⟨b, off + pl * 2, none⟩) 26 (cap - pl)) (((pl : Nat) : Int)) (ks) (T) d W v0 v1 v2 v3 v4 v5 (.tuple #[.agg #[.float .f64 x, .float .f64 y], .bool true]) v7 v8 v9 v10 v11 v12 ta tc x y X) := H
    clear H
    have HHN : Hid (d 7 = false) := hn
    have HHD : Hid (d 6 = true) := h6
    clear hd hn h6
    go_wp2
    have H0 := HH1.out
    have H := HH1.out
    have hn := HHN.out
    have h6 := HHD.out
    refine ⟨rfl, [v0, v1, v2, v3, v4, v5, .tuple #[.agg #[.float .f64 x, .float .f64 y], .bool true], .tuple #[.agg #[.float .f64 x, .float .f64 y], .bool true], v8, v9, v10, v11, v12], ?_, v0, v1, v2, v3, v4, v5, .tuple #[.agg #[.float .f64 x, .float .f64 y], .bool true], .tuple #[.agg #[.float .f64 x, .float .f64 y], .bool true], v8, v9, v10, v11, v12, ta, tc, x, y, X, rfl, ⟨H.bel, (by have h := H.f0; simpa [doneSet] using h), (by have h := H.f1; simpa [doneSet] using h), (by have h := H.f2; simpa [doneSet] using h), (by have h := H.f3; simpa [doneSet] using h), (by have h := H.f4; simpa [doneSet] using h), (by have h := H.f5; simpa [doneSet] using h), (by have h := H.r5; simpa [doneSet] using h), (fun _ => rfl), (by have h := H.hx; simpa [doneSet] using h), (by have h := H.hy; simpa [doneSet] using h), (fun _ => rfl), (by have h := H.f8; simpa [doneSet] using h), (by have h := H.f9; simpa [doneSet] using h), (by have h := H.f10; simpa [doneSet] using h), (by have h := H.k10; simpa [doneSet] using h), (by have h := H.x10; simpa [doneSet] using h), (by have h := H.k11; simpa [doneSet] using h), (by have h := H.f12; simpa [doneSet] using h), (fun _ => by simpa [doneSet] using h6), (by have h := H.g8_6; simpa [doneSet] using h), (by have h := H.g11_6; simpa [doneSet] using h), (by have h := H.g11_10; simpa [doneSet] using h)⟩⟩
    simp only [putAll, Act.put, List.setIfInBounds_toArray, List.set_cons_succ, List.set_cons_zero]
    all_goals rfl
  · rintro d vs W ⟨v0, v1, v2, v3, v4, v5, v6, v7, v8, v9, v10, v11, v12, ta, tc, x, y, X, rfl, H⟩ hn hd
    simp only [putAll, Act.put, List.setIfInBounds_toArray, List.set_cons_succ, List.set_cons_zero]
    have h7 : d 7 = true := hd { on := 7, ground := .data } (by simp) rfl
    have h6 : d 6 = true := H.g7_6 h7
    obtain rfl := H.f7 h7
    have HH1 : Hid (Rgi (W0.drew) (.slice (some ⟨b, off, none⟩) n cap) (.slice (some ⟨b, off + pl * 2, none⟩) 26 (cap - pl)) (((pl : Nat) : Int)) (ks) (T) d W v0 v1 v2 v3 v4 v5 v6 (.tuple #[.agg #[.float .f64 x, .float .f64 y], .bool true]) v8 v9 v10 v11 v12 ta tc x y X) := H
    clear H
    have HHN : Hid (d 8 = false) := hn
    have HHD : Hid (d 7 = true) := h7
    clear hd hn h7
    go_wp2
    have H0 := HH1.out
    have H := HH1.out
    have hn := HHN.out
    have h7 := HHD.out
    refine ⟨rfl, [v0, v1, v2, v3, v4, v5, v6, .tuple #[.agg #[.float .f64 x, .float .f64 y], .bool true], .agg #[.float .f64 x, .float .f64 y], v9, v10, v11, v12], ?_, v0, v1, v2, v3, v4, v5, v6, .tuple #[.agg #[.float .f64 x, .float .f64 y], .bool true], .agg #[.float .f64 x, .float .f64 y], v9, v10, v11, v12, ta, tc, x, y, X, rfl, ⟨H.bel, (by have h := H.f0; simpa [doneSet] using h), (by have h := H.f1; simpa [doneSet] using h), (by have h := H.f2; simpa [doneSet] using h), (by have h := H.f3; simpa [doneSet] using h), (by have h := H.f4; simpa [doneSet] using h), (by have h := H.f5; simpa [doneSet] using h), (by have h := H.r5; simpa [doneSet] using h), (by have h := H.f6; simpa [doneSet] using h), (by have h := H.hx; simpa [doneSet] using h), (by have h := H.hy; simpa [doneSet] using h), (fun _ => rfl), (fun _ => rfl), (by have h := H.f9; simpa [doneSet] using h), (by have h := H.f10; simpa [doneSet] using h), (by have h := H.k10; simpa [doneSet] using h), (by have h := H.x10; simpa [doneSet] using h), (by have h := H.k11; simpa [doneSet] using h), (by have h := H.f12; simpa [doneSet] using h), (by have h := H.g7_6; simpa [doneSet] using h), (fun _ => by simpa [doneSet] using h6), (by have h := H.g11_6; simpa [doneSet] using h), (by have h := H.g11_10; simpa [doneSet] using h)⟩⟩
    simp only [putAll, Act.put, List.setIfInBounds_toArray, List.set_cons_succ, List.set_cons_zero]
    all_goals rfl
  · rintro d vs W ⟨v0, v1, v2, v3, v4, v5, v6, v7, v8, v9, v10, v11, v12, ta, tc, x, y, X, rfl, H⟩ hn hd
    simp only [putAll, Act.put, List.setIfInBounds_toArray, List.set_cons_succ, List.set_cons_zero]
    have h7 : d 7 = true := hd { on := 7, ground := .data } (by simp) rfl
    obtain rfl := H.f7 h7
    have HH1 : Hid (Rgi (W0.drew) (.slice (some ⟨b, off, none⟩) n cap) (.slice (some ⟨b, off + pl * 2, none⟩) 26 (cap - pl)) (((pl : Nat) : Int)) (ks) (T) d W v0 v1 v2 v3 v4 v5 v6 (.tuple #[.agg #[.float .f64 x, .float .f64 y], .bool true]) v8 v9 v10 v11 v12 ta tc x y X) := H
    clear H
    have HHN : Hid (d 9 = false) := hn
    have HHD : Hid (d 7 = true) := h7
    clear hd hn h7
    go_wp2
    have H0 := HH1.out
    have H := HH1.out
    have hn := HHN.out
    have h7 := HHD.out
    refine ⟨rfl, [v0, v1, v2, v3, v4, v5, v6, .tuple #[.agg #[.float .f64 x, .float .f64 y], .bool true], v8, .bool true, v10, v11, v12], ?_, v0, v1, v2, v3, v4, v5, v6, .tuple #[.agg #[.float .f64 x, .float .f64 y], .bool true], v8, .bool true, v10, v11, v12, ta, tc, x, y, X, rfl, ⟨H.bel, (by have h := H.f0; simpa [doneSet] using h), (by have h := H.f1; simpa [doneSet] using h), (by have h := H.f2; simpa [doneSet] using h), (by have h := H.f3; simpa [doneSet] using h), (by have h := H.f4; simpa [doneSet] using h), (by have h := H.f5; simpa [doneSet] using h), (by have h := H.r5; simpa [doneSet] using h), (by have h := H.f6; simpa [doneSet] using h), (by have h := H.hx; simpa [doneSet] using h), (by have h := H.hy; simpa [doneSet] using h), (fun _ => rfl), (by have h := H.f8; simpa [doneSet] using h), (fun _ => rfl), (by have h := H.f10; simpa [doneSet] using h), (by have h := H.k10; simpa [doneSet] using h), (by have h := H.x10; simpa [doneSet] using h), (by have h := H.k11; simpa [doneSet] using h), (by have h := H.f12; simpa [doneSet] using h), (by have h := H.g7_6; simpa [doneSet] using h), (by have h := H.g8_6; simpa [doneSet] using h), (by have h := H.g11_6; simpa [doneSet] using h), (by have h := H.g11_10; simpa [doneSet] using h)⟩⟩
    simp only [putAll, Act.put, List.setIfInBounds_toArray, List.set_cons_succ, List.set_cons_zero]
    all_goals rfl
  · rintro d vs W ⟨v0, v1, v2, v3, v4, v5, v6, v7, v8, v9, v10, v11, v12, ta, tc, x, y, X, rfl, H⟩ hn hd
    simp only [putAll, Act.put, List.setIfInBounds_toArray, List.set_cons_succ, List.set_cons_zero]
    have HH1 : Hid (Rgi (W0.drew) (.slice (some ⟨b, off, none⟩) n cap) (.slice (some ⟨b, off + pl * 2, none⟩) 26 (cap - pl)) (((pl : Nat) : Int)) (ks) (T) d W v0 v1 v2 v3 v4 v5 v6 v7 v8 v9 v10 v11 v12 ta tc x y X) := H
    clear H
    have HHN : Hid (d 10 = false) := hn
    clear hd hn
    go_wp2
    have H0 := HH1.out
    have H := HH1.out.below ((Below.refl _ W).alloc (Nat.le_refl _) (.cells #[.float .f64 0, .float .f64 0] 38))
    have hn := HHN.out
    refine ⟨rfl, [v0, v1, v2, v3, v4, v5, v6, v7, v8, v9, .pointer (some ⟨W.heap.size, 0, none⟩), v11, v12], ?_, v0, v1, v2, v3, v4, v5, v6, v7, v8, v9, .pointer (some ⟨W.heap.size, 0, none⟩), v11, v12, ta, tc, x, y, W.heap.size, rfl, ⟨H.bel, (by have h := H.f0; simpa [doneSet] using h), (by have h := H.f1; simpa [doneSet] using h), (by have h := H.f2; simpa [doneSet] using h), (by have h := H.f3; simpa [doneSet] using h), (by have h := H.f4; simpa [doneSet] using h), (by have h := H.f5; simpa [doneSet] using h), (by have h := H.r5; simpa [doneSet] using h), (by have h := H.f6; simpa [doneSet] using h), (by have h := H.hx; simpa [doneSet] using h), (by have h := H.hy; simpa [doneSet] using h), (by have h := H.f7; simpa [doneSet] using h), (by have h := H.f8; simpa [doneSet] using h), (by have h := H.f9; simpa [doneSet] using h), (fun _ => rfl), (fun _ _ => Blk.new _ _ _), (fun _ => H0.bel.size), (fun e => absurd (H0.g11_10 (by simpa [doneSet] using e)) (by rw [hn]; simp)), (by have h := H.f12; simpa [doneSet] using h), (by have h := H.g7_6; simpa [doneSet] using h), (by have h := H.g8_6; simpa [doneSet] using h), (by have h := H.g11_6; simpa [doneSet] using h), (fun _ => by simp [doneSet])⟩⟩
    simp only [putAll, Act.put, List.setIfInBounds_toArray, List.set_cons_succ, List.set_cons_zero]
    all_goals rfl
  · rintro d vs W ⟨v0, v1, v2, v3, v4, v5, v6, v7, v8, v9, v10, v11, v12, ta, tc, x, y, X, rfl, H⟩ hn hd
    simp only [putAll, Act.put, List.setIfInBounds_toArray, List.set_cons_succ, List.set_cons_zero]
    have h10 : d 10 = true := hd { on := 10, ground := .data } (by simp) rfl
    have h8 : d 8 = true := hd { on := 8, ground := .data } (by simp) rfl
    have h6 : d 6 = true := H.g8_6 h8
    have K5 := H.k10 h10 hn
    have HK5 : Hid (Blk W X #[.float .f64 0, .float .f64 0] 38) := K5
    have HX5 : Hid (W0.drew.heap.size ≤ X) := H.x10 h10
    have z0 := K5.cell 0
    have z1 := K5.cell 1
    have f0 := K5.frozen 0
    have f1 := K5.frozen 1
    simp at z0 z1
    clear K5
    obtain rfl := H.f10 h10
    obtain rfl := H.f8 h8
    have HH1 : Hid (Rgi (W0.drew) (.slice (some ⟨b, off, none⟩) n cap) (.slice (some ⟨b, off + pl * 2, none⟩) 26 (cap - pl)) (((pl : Nat) : Int)) (ks) (T) d W v0 v1 v2 v3 v4 v5 v6 v7 (.agg #[.float .f64 x, .float .f64 y]) v9 (.pointer (some ⟨X, 0, none⟩)) v11 v12 ta tc x y X) := H
    clear H
    have HHN : Hid (d 11 = false) := hn
    have HHD : Hid (d 10 = true ∧ d 8 = true) := ⟨h10, h8⟩
    clear hd hn h10 h8
    go_wp2
    have H0 := HH1.out
    have H := HH1.out
    have hn := HHN.out
    have h10 := HHD.out.1
    have h8 := HHD.out.2
    refine ⟨rfl, [v0, v1, v2, v3, v4, v5, v6, v7, .agg #[.float .f64 x, .float .f64 y], v9, .pointer (some ⟨X, 0, none⟩), undef, v12], ?_, v0, v1, v2, v3, v4, v5, v6, v7, .agg #[.float .f64 x, .float .f64 y], v9, .pointer (some ⟨X, 0, none⟩), undef, v12, ta, tc, x, y, X, rfl, ⟨(below_set2 H0.bel _ HX5.out _ _), (by have h := H.f0; simpa [doneSet] using h), (by have h := H.f1; simpa [doneSet] using h), (by have h := H.f2; simpa [doneSet] using h), (by have h := H.f3; simpa [doneSet] using h), (by have h := H.f4; simpa [doneSet] using h), (by have h := H.f5; simpa [doneSet] using h), (fun _ e => absurd e (by simp [doneSet, h6])), (by have h := H.f6; simpa [doneSet] using h), (by have h := H.hx; simpa [doneSet] using h), (by have h := H.hy; simpa [doneSet] using h), (by have h := H.f7; simpa [doneSet] using h), (fun _ => rfl), (by have h := H.f9; simpa [doneSet] using h), (fun _ => rfl), (fun _ e => absurd e (by simp [doneSet])), (by have h := H.x10; simpa [doneSet] using h), (fun _ => Blk.set2 HK5.out _ _), (by have h := H.f12; simpa [doneSet] using h), (by have h := H.g7_6; simpa [doneSet] using h), (by have h := H.g8_6; simpa [doneSet] using h), (fun _ => by simpa [doneSet] using h6), (fun _ => by simpa [doneSet] using h10)⟩⟩
    simp only [putAll, Act.put, List.setIfInBounds_toArray, List.set_cons_succ, List.set_cons_zero]
    all_goals rfl
  · rintro d vs W ⟨v0, v1, v2, v3, v4, v5, v6, v7, v8, v9, v10, v11, v12, ta, tc, x, y, X, rfl, H⟩ hn hd
    simp only [putAll, Act.put, List.setIfInBounds_toArray, List.set_cons_succ, List.set_cons_zero]
    have h9 : d 9 = true := hd { on := 9, ground := .data } (by simp) rfl
    obtain rfl := H.f9 h9
    have HH1 : Hid (Rgi (W0.drew) (.slice (some ⟨b, off, none⟩) n cap) (.slice (some ⟨b, off + pl * 2, none⟩) 26 (cap - pl)) (((pl : Nat) : Int)) (ks) (T) d W v0 v1 v2 v3 v4 v5 v6 v7 v8 (.bool true) v10 v11 v12 ta tc x y X) := H
    clear H
    have HHN : Hid (d 12 = false) := hn
    have HHD : Hid (d 9 = true) := h9
    clear hd hn h9
    go_wp2
    have H0 := HH1.out
    have H := HH1.out
    have hn := HHN.out
    have h9 := HHD.out
    refine ⟨rfl, [v0, v1, v2, v3, v4, v5, v6, v7, v8, .bool true, v10, v11, .bool true], ?_, v0, v1, v2, v3, v4, v5, v6, v7, v8, .bool true, v10, v11, .bool true, ta, tc, x, y, X, rfl, ⟨H.bel, (by have h := H.f0; simpa [doneSet] using h), (by have h := H.f1; simpa [doneSet] using h), (by have h := H.f2; simpa [doneSet] using h), (by have h := H.f3; simpa [doneSet] using h), (by have h := H.f4; simpa [doneSet] using h), (by have h := H.f5; simpa [doneSet] using h), (by have h := H.r5; simpa [doneSet] using h), (by have h := H.f6; simpa [doneSet] using h), (by have h := H.hx; simpa [doneSet] using h), (by have h := H.hy; simpa [doneSet] using h), (by have h := H.f7; simpa [doneSet] using h), (by have h := H.f8; simpa [doneSet] using h), (fun _ => rfl), (by have h := H.f10; simpa [doneSet] using h), (by have h := H.k10; simpa [doneSet] using h), (by have h := H.x10; simpa [doneSet] using h), (by have h := H.k11; simpa [doneSet] using h), (fun _ => rfl), (by have h := H.g7_6; simpa [doneSet] using h), (by have h := H.g8_6; simpa [doneSet] using h), (by have h := H.g11_6; simpa [doneSet] using h), (by have h := H.g11_10; simpa [doneSet] using h)⟩⟩
    simp only [putAll, Act.put, List.setIfInBounds_toArray, List.set_cons_succ, List.set_cons_zero]
    all_goals rfl
  rintro d' vs W ⟨v0, v1, v2, v3, v4, v5, v6, v7, v8, v9, v10, v11, v12, ta, tc, x, y, X, rfl, H⟩ hn
  obtain rfl := H.f0 (hn 0 (by decide))
  obtain rfl := H.f1 (hn 1 (by decide))
  obtain rfl := H.f2 (hn 2 (by decide))
  obtain rfl := H.f3 (hn 3 (by decide))
  obtain rfl := H.f4 (hn 4 (by decide))
  obtain rfl := H.f5 (hn 5 (by decide))
  obtain rfl := H.f6 (hn 6 (by decide))
  obtain rfl := H.f7 (hn 7 (by decide))
  obtain rfl := H.f8 (hn 8 (by decide))
  obtain rfl := H.f9 (hn 9 (by decide))
  obtain rfl := H.f10 (hn 10 (by decide))
  obtain rfl := H.f12 (hn 12 (by decide))
  have HX : Hid (fc .f64 x = mtF pXR ks T 26 ∧ fc .f64 y = mtF pXI ks T 26) := ⟨H.hx (hn 6 (by decide)), H.hy (hn 6 (by decide))⟩
  have HKX : Hid (Blk W X #[.float .f64 x, .float .f64 y] 38) := H.k11 (hn 11 (by decide))
  have HXG : Hid (W0.drew.heap.size ≤ X) := H.x10 (hn 10 (by decide))
  have HB2 : Hid (Below W0.drew.heap.size W0.drew W) := H.bel
  have HKR : Hid (Blk W R #[.float .f64 0, .float .f64 0] 38) := by
    have := HK0.out.drew
    exact this.below H.bel this.lt
  have HBW : Hid (Below w.heap.size w W) := by
    have h1 : Below w.heap.size w W0.drew := HBw.out.drew
    exact h1.trans (H.bel.mono h1.size)
  clear H hn
  simp only [putAll, Act.put, List.setIfInBounds_toArray, List.set_cons_succ, List.set_cons_zero]
  have x0 := HKX.out.cell 0
  have x1 := HKX.out.cell 1
  have r0 := HKR.out.cell 0
  have r1 := HKR.out.cell 1
  have g0 := HKR.out.frozen 0
  have g1 := HKR.out.frozen 1
  simp at x0 x1 r0 r1
  go_wp2
  refine bodyPost_ret (results_W2 rfl _ _ _ _ _ _ rfl rfl (Blk.set2 (HKR.out.drewN _) _ _)) rfl ⟨_, _, by rw [HQ.out]; rfl, ?_, ?_, ⟨fv_lt _ _ _ _, fv_lt _ _ _ _⟩, below_set2 (below_drewN HBW.out _) _ (by rw [HRR.out]; exact Nat.le_refl _) _ _⟩
  · rw [fc_fv, HX.out.1, fc52, HFX.out]
  · rw [fc_fv, HX.out.2, fc52, HFI.out]

end Go.Proofs.Ytomgdlnpajfjhaa
