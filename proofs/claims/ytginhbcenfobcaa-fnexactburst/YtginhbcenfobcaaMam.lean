/- Match14 of the model; no condition. -/
import Derived.Test.YtginhbcenfobcaaMai
namespace Go.Proofs.Ytginhbcenfobcaa
open Go.RowKit Go.ChangeShapes Go.WideShapes Go.ChangeAt
set_option linter.unusedVariables false
set_option linter.unusedSimpArgs false
set_option maxRecDepth 8000
structure Rmm (Wd : World) (sl : Value) (sk : Value) (jv : Value) (pl : Addr) (pk : Addr) (p : Nat) (r : Nat) (c : Nat) (e : Nat) (d : Nat → Bool) (W : World) (v0 v1 v2 v3 v4 v5 v6 v7 v8 v9 v10 v11 v12 v13 : Value) (A : Nat) (B : Nat) (C : Nat) (D : Nat) (M : Nat) (N : Nat) (X : Nat) : Prop where
  bel : Below Wd.heap.size Wd W
  f0 : d 0 = true → v0 = sl
  f1 : d 1 = true → v1 = jv
  f2 : d 2 = true → v2 = .pointer (some pl)
  f3 : d 3 = true → v3 = .agg #[.float .f32 p, .float .f32 r]
  f4 : d 4 = true → v4 = .agg #[.float .f64 A, .float .f64 B]
  f5 : d 5 = true → v5 = sk
  f6 : d 6 = true → v6 = jv
  f7 : d 7 = true → v7 = .pointer (some pk)
  f8 : d 8 = true → v8 = .agg #[.float .f32 c, .float .f32 e]
  f9 : d 9 = true → v9 = .agg #[.float .f32 c, .float .f32 (Op.negFloat .f32 e)]
  f10 : d 10 = true → v10 = .agg #[.float .f64 C, .float .f64 D]
  f11 : d 11 = true → v11 = .agg #[.float .f64 M, .float .f64 N]
  f12 : d 12 = true → v12 = .pointer (some ⟨X, 0, none⟩)
  ha : d 4 = true → fc .f64 A = (fc .f32 p).map wid ∧ fc .f64 B = (fc .f32 r).map wid
  hc : d 10 = true → fc .f64 C = (fc .f32 c).map wid ∧ fc .f64 D = (fc .f32 (Op.negFloat .f32 e)).map wid
  hm : d 11 = true → fc .f64 M = pXR p r c e ∧ fc .f64 N = pXI p r c e
  k12 : d 12 = true → d 13 = false → Blk W X #[.float .f64 0, .float .f64 0] 38
  x12 : d 12 = true → Wd.heap.size ≤ X
  k13 : d 13 = true → Blk W X #[.float .f64 M, .float .f64 N] 38
  g13_11 : d 13 = true → d 11 = true
  g13_12 : d 13 = true → d 12 = true
def RmmS (Wd : World) (sl : Value) (sk : Value) (jv : Value) (pl : Addr) (pk : Addr) (p : Nat) (r : Nat) (c : Nat) (e : Nat) (d : Nat → Bool) (q : List Value) (W : World) : Prop := ∃ v0 v1 v2 v3 v4 v5 v6 v7 v8 v9 v10 v11 v12 v13 A B C D M N X, q = [v0, v1, v2, v3, v4, v5, v6, v7, v8, v9, v10, v11, v12, v13] ∧ Rmm Wd sl sk jv pl pk p r c e d W v0 v1 v2 v3 v4 v5 v6 v7 v8 v9 v10 v11 v12 v13 A B C D M N X
theorem Rmm.below {Wd : World} {sl : Value} {sk : Value} {jv : Value} {pl : Addr} {pk : Addr} {p : Nat} {r : Nat} {c : Nat} {e : Nat} {d : Nat → Bool} {W W' : World} {v0 v1 v2 v3 v4 v5 v6 v7 v8 v9 v10 v11 v12 v13 : Value} {A : Nat} {B : Nat} {C : Nat} {D : Nat} {M : Nat} {N : Nat} {X : Nat} (h : Rmm Wd sl sk jv pl pk p r c e d W v0 v1 v2 v3 v4 v5 v6 v7 v8 v9 v10 v11 v12 v13 A B C D M N X) (hb : Below W.heap.size W W') : Rmm Wd sl sk jv pl pk p r c e d W' v0 v1 v2 v3 v4 v5 v6 v7 v8 v9 v10 v11 v12 v13 A B C D M N X :=
  { h with
    bel := belowCall h.bel hb h.bel.size
    k12 := fun e0 e1 => (h.k12 e0 e1).below hb (h.k12 e0 e1).lt
    k13 := fun e0 => (h.k13 e0).below hb (h.k13 e0).lt
  }
set_option maxHeartbeats 6400000 in
theorem matchM_c (v k : Value) (ls ks : List (Nat × Nat)) (w : World) (h : Rg 2 smC w v ls) (h' : Rg 2 smC w k ks) : Calls Try.prog 61 #[v, k] w (MtR ls ks w) := by
  obtain ⟨a, cap, rfl, h1, h2, h3⟩ := h
  obtain ⟨a', cap', rfl, h1', h2', h3'⟩ := h'
  unfold maxLen at h2 h2'
  have hsf := storeF
  have hop := run_fop (P := Try.prog) .add (by simp)
  obtain ⟨W0, hW0⟩ : ∃ W, (w.alloc (Obj.cells #[.float .f64 0, .float .f64 0] 38)).alloc (Obj.cells #[.float .f64 0, .float .f64 0] 38) = W := ⟨_, rfl⟩
  have HW0 : Hid ((w.alloc (Obj.cells #[.float .f64 0, .float .f64 0] 38)).alloc (Obj.cells #[.float .f64 0, .float .f64 0] 38) = W0) := hW0
  have HB0 : Hid (Below w.heap.size w W0) := by rw [← hW0]; exact ((Below.refl _ _).alloc (Nat.le_refl _) _).alloc (by simp) _
  have HK0 : Hid (Blk W0 w.heap.size #[.float .f64 0, .float .f64 0] 38 ∧ Blk W0 (w.heap.size + 1) #[.float .f64 0, .float .f64 0] 38) := by rw [← hW0]; exact ⟨(Blk.new _ _ _).alloc _, Blk.newAt _ _ _ _ (by simp)⟩
  clear hW0
  by_cases hle : ls.length = ks.length
  case neg =>
    have HM : Hid (mtB ls ks = false) := by show _ = _; unfold mtB; rw [decide_eq_false hle]; rfl
    have HN : Hid (mtN ls ks = 0) := by show _ = _; unfold mtN; rw [HM.out]; rfl
    have hne : ((ls.length : Int) != (ks.length : Int)) = true := by rw [bne_iff_ne]; omega
    clear hle h3 h3'
    go_enter Try.func61, Try.ntmps61
    go_wp2
    rw [HW0.out]
    refine bodyPost_ret (results_W2 rfl _ _ _ _ _ _ rfl rfl HK0.out.1) rfl ⟨0, 0, by rw [HM.out]; rfl, ?_, ?_, HB0.out⟩
    · rw [HN.out]; exact fcd0
    · rw [HN.out]; exact fcd0

  have hne : ((ls.length : Int) != (ks.length : Int)) = false := by rw [hle]; simp
  have HLE : Hid (ls.length = ks.length) := hle
  by_cases hin : 1 ≤ ls.length ∧ ls.length ≤ 200
  case neg =>
    have HM : Hid (mtB ls ks = false) := by
      show _ = _
      unfold mtB
      by_cases h1 : 1 ≤ ls.length
      · rw [decide_eq_false (show ¬ ls.length ≤ 200 from fun h => hin ⟨h1, h⟩)]; simp
      · rw [decide_eq_false h1]; simp
    have HN : Hid (mtN ls ks = 0) := by show _ = _; unfold mtN; rw [HM.out]; rfl
    have HW : Hid ((decide ((1 : Int) ≤ (ls.length : Int)) && decide ((ls.length : Int) ≤ 200)) = false) := by
      show _ = _
      by_cases h1 : 1 ≤ ls.length
      · rw [decide_eq_false (show ¬ (ls.length : Int) ≤ 200 from fun h => hin ⟨h1, by omega⟩)]; simp
      · rw [decide_eq_false (show ¬ (1 : Int) ≤ (ls.length : Int) by omega)]; simp
    clear hle hin h3 h3'
    go_enter Try.func61, Try.ntmps61
    go_wp2_with (fail)
    refine (in_c _ _ _ _).mono ?_
    rintro e w' ⟨rfl, hw⟩
    rw [hw, HW.out]
    clear hw
    go_wp2
    rw [HW0.out]
    refine bodyPost_ret (results_W2 rfl _ _ _ _ _ _ rfl rfl HK0.out.1) rfl ⟨0, 0, by rw [HM.out]; rfl, ?_, ?_, HB0.out⟩
    · rw [HN.out]; exact fcd0
    · rw [HN.out]; exact fcd0

  have HM : Hid (mtB ls ks = true) := by show _ = _; unfold mtB; rw [decide_eq_true hle, decide_eq_true hin.1, decide_eq_true hin.2]; rfl
  have HN : Hid (mtN ls ks = ls.length) := by show _ = _; unfold mtN; rw [HM.out]; rfl
  have HW : Hid ((decide ((1 : Int) ≤ (ls.length : Int)) && decide ((ls.length : Int) ≤ 200)) = true) := by
    show _ = _
    rw [decide_eq_true (show (1 : Int) ≤ (ls.length : Int) by omega), decide_eq_true (show (ls.length : Int) ≤ 200 by omega)]; rfl
  have hin1 := hin.2
  clear hle hin
  go_enter Try.func61, Try.ntmps61
  go_wp2_with (fail)
  refine (in_c _ _ _ _).mono ?_
  rintro e w' ⟨rfl, hw⟩
  rw [hw, HW.out]
  clear hw
  go_wp2
  rw [HW0.out]
  go_loopw [7] (fun i wr => ∃ (j u y : Nat), j ≤ ls.length ∧ i = .int .i64 j ∧ Hid (fc .f64 u = mtF pXR ls ks j ∧ fc .f64 y = mtF pXI ls ks j) ∧ Hid (Blk wr w.heap.size #[.float .f64 0, .float .f64 0] 38 ∧ Blk wr (w.heap.size + 1) #[.float .f64 u, .float .f64 y] 38) ∧ Hid (Below w.heap.size w wr)) (fun i _ => ls.length - (intOf i).toNat)
  case atStart => exact ⟨0, 0, 0, Nat.zero_le _, rfl, ⟨fcd0, fcd0⟩, HK0.out, HB0.out⟩
  case round =>
    obtain ⟨j, u, y, hj, rfl, HF, HK, HB⟩ := hrel
    clear HK0 HB0 HW0
    by_cases hlt : j < ls.length
    case neg =>
      obtain rfl : j = ls.length := by omega
      clear h3 h3'
      have c0 := HK.out.2.cell 0
      have c1 := HK.out.2.cell 1
      have z0 := HK.out.1.cell 0
      have z1 := HK.out.1.cell 1
      have f0 := HK.out.1.frozen 0
      have f1 := HK.out.1.frozen 1
      simp at c0 c1 z0 z1
      go_wp2
      refine bodyPost_ret (results_W2 rfl _ _ _ _ _ _ rfl rfl (Blk.set2 HK.out.1 _ _)) rfl ⟨u, y, by rw [HM.out]; rfl, ?_, ?_, below_set2 HB.out _ (by omega) _ _⟩
      · rw [HN.out]; exact HF.out.1
      · rw [HN.out]; exact HF.out.2
    rcases h3 with h3 | ⟨b, off, rfl, h4⟩
    · subst h3; simp at hlt
    have hlk : j < ks.length := by have := HLE.out; omega
    rcases h3' with h3' | ⟨b', off', rfl, h4'⟩
    · subst h3'; simp at hlk
    have hcb : b < w.heap.size := block_lt_of_cell (h4 j hlt 0 _ rfl)
    have hcb' : b' < w.heap.size := block_lt_of_cell (h4' j hlk 0 _ rfl)
    obtain ⟨⟨p, r⟩, hpr⟩ : ∃ k, ls[j] = k := ⟨_, rfl⟩
    obtain ⟨⟨c, z⟩, hcd⟩ : ∃ k, ks[j] = k := ⟨_, rfl⟩
    have HG : Hid (ls.getD j (0, 0) = (p, r)) := by show _ = _; rw [List.getD_eq_getElem?_getD, List.getElem?_eq_getElem hlt, hpr]; rfl
    have HG' : Hid (ks.getD j (0, 0) = (c, z)) := by show _ = _; rw [List.getD_eq_getElem?_getD, List.getElem?_eq_getElem hlk, hcd]; rfl
    have HR : Hid (w.rangeAt b (off + j * 2) (smC (p, r))) := by have := h4 j hlt; rw [hpr] at this; exact this
    have HR' : Hid (w.rangeAt b' (off' + j * 2) (smC (c, z))) := by have := h4' j hlk; rw [hcd] at this; exact this
    have hlkI : (j : Int) < (ks.length : Int) := by omega
    clear h4 h4' hpr hcd
    have CE : Hid (∀ U, Below wr.drew.heap.size wr.drew U → U.cell? ⟨b, off + j * 2, none⟩ = some (.float .f32 p) ∧ U.cell? ⟨b, off + j * 2 + 1, none⟩ = some (.float .f32 r) ∧ U.cell? ⟨b', off' + j * 2, none⟩ = some (.float .f32 c) ∧ U.cell? ⟨b', off' + j * 2 + 1, none⟩ = some (.float .f32 z)) := fun U hU => by
      have hB : Below w.heap.size w U := HB.out.drew.trans (hU.mono HB.out.drew.size)
      have hR := rangeAt_below HR.out hB hcb
      have hR' := rangeAt_below HR'.out hB hcb'
      exact ⟨hR 0 _ rfl, hR 1 _ rfl, hR' 0 _ rfl, hR' 1 _ rfl⟩
    go_wp2
    refine region_vals [undef, undef, undef, undef, undef, undef, undef, undef, undef, undef, undef, undef, undef, undef] (RmmS (wr.drew) ((.slice (some ⟨b, off, none⟩) ls.length cap)) ((.slice (some ⟨b', off', none⟩) ks.length cap')) ((.int .i64 (j : Int))) (⟨b, off + j * 2, none⟩) (⟨b', off' + j * 2, none⟩) (p) (r) (c) (z)) (by kernel_rfl) (by kernel_rfl) ?_ ⟨?_, ?_, ?_, ?_, ?_, ?_, ?_, ?_, ?_, ?_, ?_, ?_, ?_, ?_, trivial⟩ ?_
    · refine ⟨_, _, _, _, _, _, _, _, _, _, _, _, _, _, 0, 0, 0, 0, 0, 0, 0, rfl, ⟨(Below.refl _ _), ?_, ?_, ?_, ?_, ?_, ?_, ?_, ?_, ?_, ?_, ?_, ?_, ?_, ?_, ?_, ?_, ?_, ?_, ?_, ?_, ?_⟩⟩ <;> simp
    · rintro d vs W ⟨v0, v1, v2, v3, v4, v5, v6, v7, v8, v9, v10, v11, v12, v13, A, B, C, D, M, N, X, rfl, H⟩ hn hd
      simp only [putAll, Act.put, List.setIfInBounds_toArray, List.set_cons_succ, List.set_cons_zero]
      have HH1 : Hid (Rmm (wr.drew) ((.slice (some ⟨b, off, none⟩) ls.length cap)) ((.slice (some ⟨b', off', none⟩) ks.length cap')) ((.int .i64 (j : Int))) (⟨b, off + j * 2, none⟩) (⟨b', off' + j * 2, none⟩) (p) (r) (c) (z) d W v0 v1 v2 v3 v4 v5 v6 v7 v8 v9 v10 v11 v12 v13 A B C D M N X) := H
      clear H
      have HHN : Hid (d 0 = false) := hn
      clear hd hn
      go_wp2
      have H0 := HH1.out
      have H := HH1.out
      have hn := HHN.out
      refine ⟨rfl, [((.slice (some ⟨b, off, none⟩) ls.length cap)), v1, v2, v3, v4, v5, v6, v7, v8, v9, v10, v11, v12, v13], ?_, ((.slice (some ⟨b, off, none⟩) ls.length cap)), v1, v2, v3, v4, v5, v6, v7, v8, v9, v10, v11, v12, v13, A, B, C, D, M, N, X, rfl, ⟨H.bel, (fun _ => rfl), (by have h := H.f1; simpa [doneSet] using h), (by have h := H.f2; simpa [doneSet] using h), (by have h := H.f3; simpa [doneSet] using h), (by have h := H.f4; simpa [doneSet] using h), (by have h := H.f5; simpa [doneSet] using h), (by have h := H.f6; simpa [doneSet] using h), (by have h := H.f7; simpa [doneSet] using h), (by have h := H.f8; simpa [doneSet] using h), (by have h := H.f9; simpa [doneSet] using h), (by have h := H.f10; simpa [doneSet] using h), (by have h := H.f11; simpa [doneSet] using h), (by have h := H.f12; simpa [doneSet] using h), (by have h := H.ha; simpa [doneSet] using h), (by have h := H.hc; simpa [doneSet] using h), (by have h := H.hm; simpa [doneSet] using h), (by have h := H.k12; simpa [doneSet] using h), (by have h := H.x12; simpa [doneSet] using h), (by have h := H.k13; simpa [doneSet] using h), (by have h := H.g13_11; simpa [doneSet] using h), (by have h := H.g13_12; simpa [doneSet] using h)⟩⟩
      simp only [putAll, Act.put, List.setIfInBounds_toArray, List.set_cons_succ, List.set_cons_zero]
      all_goals rfl
    · rintro d vs W ⟨v0, v1, v2, v3, v4, v5, v6, v7, v8, v9, v10, v11, v12, v13, A, B, C, D, M, N, X, rfl, H⟩ hn hd
      simp only [putAll, Act.put, List.setIfInBounds_toArray, List.set_cons_succ, List.set_cons_zero]
      have HH1 : Hid (Rmm (wr.drew) ((.slice (some ⟨b, off, none⟩) ls.length cap)) ((.slice (some ⟨b', off', none⟩) ks.length cap')) ((.int .i64 (j : Int))) (⟨b, off + j * 2, none⟩) (⟨b', off' + j * 2, none⟩) (p) (r) (c) (z) d W v0 v1 v2 v3 v4 v5 v6 v7 v8 v9 v10 v11 v12 v13 A B C D M N X) := H
      clear H
      have HHN : Hid (d 1 = false) := hn
      clear hd hn
      go_wp2
      have H0 := HH1.out
      have H := HH1.out
      have hn := HHN.out
      refine ⟨rfl, [v0, ((.int .i64 (j : Int))), v2, v3, v4, v5, v6, v7, v8, v9, v10, v11, v12, v13], ?_, v0, ((.int .i64 (j : Int))), v2, v3, v4, v5, v6, v7, v8, v9, v10, v11, v12, v13, A, B, C, D, M, N, X, rfl, ⟨H.bel, (by have h := H.f0; simpa [doneSet] using h), (fun _ => rfl), (by have h := H.f2; simpa [doneSet] using h), (by have h := H.f3; simpa [doneSet] using h), (by have h := H.f4; simpa [doneSet] using h), (by have h := H.f5; simpa [doneSet] using h), (by have h := H.f6; simpa [doneSet] using h), (by have h := H.f7; simpa [doneSet] using h), (by have h := H.f8; simpa [doneSet] using h), (by have h := H.f9; simpa [doneSet] using h), (by have h := H.f10; simpa [doneSet] using h), (by have h := H.f11; simpa [doneSet] using h), (by have h := H.f12; simpa [doneSet] using h), (by have h := H.ha; simpa [doneSet] using h), (by have h := H.hc; simpa [doneSet] using h), (by have h := H.hm; simpa [doneSet] using h), (by have h := H.k12; simpa [doneSet] using h), (by have h := H.x12; simpa [doneSet] using h), (by have h := H.k13; simpa [doneSet] using h), (by have h := H.g13_11; simpa [doneSet] using h), (by have h := H.g13_12; simpa [doneSet] using h)⟩⟩
      simp only [putAll, Act.put, List.setIfInBounds_toArray, List.set_cons_succ, List.set_cons_zero]
      all_goals rfl
    · rintro d vs W ⟨v0, v1, v2, v3, v4, v5, v6, v7, v8, v9, v10, v11, v12, v13, A, B, C, D, M, N, X, rfl, H⟩ hn hd
      simp only [putAll, Act.put, List.setIfInBounds_toArray, List.set_cons_succ, List.set_cons_zero]
      have h0 : d 0 = true := hd { on := 0, ground := .data } (by simp) rfl
      have h1 : d 1 = true := hd { on := 1, ground := .data } (by simp) rfl
      obtain rfl := H.f0 h0
      obtain rfl := H.f1 h1
      have HH1 : Hid (Rmm (wr.drew) ((.slice (some ⟨b, off, none⟩) ls.length cap)) ((.slice (some ⟨b', off', none⟩) ks.length cap')) ((.int .i64 (j : Int))) (⟨b, off + j * 2, none⟩) (⟨b', off' + j * 2, none⟩) (p) (r) (c) (z) d W (((.slice (some ⟨b, off, none⟩) ls.length cap))) (((.int .i64 (j : Int)))) v2 v3 v4 v5 v6 v7 v8 v9 v10 v11 v12 v13 A B C D M N X) := H
      clear H
      have HHN : Hid (d 2 = false) := hn
      have HHD : Hid (d 0 = true ∧ d 1 = true) := ⟨h0, h1⟩
      clear hd hn h0 h1
      go_wp2
      have H0 := HH1.out
      have H := HH1.out
      have hn := HHN.out
      have h0 := HHD.out.1
      have h1 := HHD.out.2
      refine ⟨rfl, [((.slice (some ⟨b, off, none⟩) ls.length cap)), ((.int .i64 (j : Int))), .pointer (some (⟨b, off + j * 2, none⟩)), v3, v4, v5, v6, v7, v8, v9, v10, v11, v12, v13], ?_, ((.slice (some ⟨b, off, none⟩) ls.length cap)), ((.int .i64 (j : Int))), .pointer (some (⟨b, off + j * 2, none⟩)), v3, v4, v5, v6, v7, v8, v9, v10, v11, v12, v13, A, B, C, D, M, N, X, rfl, ⟨H.bel, (fun _ => rfl), (fun _ => rfl), (fun _ => rfl), (by have h := H.f3; simpa [doneSet] using h), (by have h := H.f4; simpa [doneSet] using h), (by have h := H.f5; simpa [doneSet] using h), (by have h := H.f6; simpa [doneSet] using h), (by have h := H.f7; simpa [doneSet] using h), (by have h := H.f8; simpa [doneSet] using h), (by have h := H.f9; simpa [doneSet] using h), (by have h := H.f10; simpa [doneSet] using h), (by have h := H.f11; simpa [doneSet] using h), (by have h := H.f12; simpa [doneSet] using h), (by have h := H.ha; simpa [doneSet] using h), (by have h := H.hc; simpa [doneSet] using h), (by have h := H.hm; simpa [doneSet] using h), (by have h := H.k12; simpa [doneSet] using h), (by have h := H.x12; simpa [doneSet] using h), (by have h := H.k13; simpa [doneSet] using h), (by have h := H.g13_11; simpa [doneSet] using h), (by have h := H.g13_12; simpa [doneSet] using h)⟩⟩
      simp only [putAll, Act.put, List.setIfInBounds_toArray, List.set_cons_succ, List.set_cons_zero]
      all_goals rfl
    · rintro d vs W ⟨v0, v1, v2, v3, v4, v5, v6, v7, v8, v9, v10, v11, v12, v13, A, B, C, D, M, N, X, rfl, H⟩ hn hd
      simp only [putAll, Act.put, List.setIfInBounds_toArray, List.set_cons_succ, List.set_cons_zero]
      have h2 : d 2 = true := hd { on := 2, ground := .data } (by simp) rfl
      obtain ⟨g0, g1, g2, g3⟩ := CE.out W H.bel
      obtain rfl := H.f2 h2
      have HH1 : Hid (Rmm (wr.drew) ((.slice (some ⟨b, off, none⟩) ls.length cap)) ((.slice (some ⟨b', off', none⟩) ks.length cap')) ((.int .i64 (j : Int))) (⟨b, off + j * 2, none⟩) (⟨b', off' + j * 2, none⟩) (p) (r) (c) (z) d W v0 v1 (.pointer (some (⟨b, off + j * 2, none⟩))) v3 v4 v5 v6 v7 v8 v9 v10 v11 v12 v13 A B C D M N X) := H
      clear H
      have HHN : Hid (d 3 = false) := hn
      have HHD : Hid (d 2 = true) := h2
      clear hd hn h2 g2 g3
      go_wp2
      have H0 := HH1.out
      have H := HH1.out
      have hn := HHN.out
      have h2 := HHD.out
      refine ⟨rfl, [v0, v1, .pointer (some (⟨b, off + j * 2, none⟩)), .agg #[.float .f32 p, .float .f32 r], v4, v5, v6, v7, v8, v9, v10, v11, v12, v13], ?_, v0, v1, .pointer (some (⟨b, off + j * 2, none⟩)), .agg #[.float .f32 p, .float .f32 r], v4, v5, v6, v7, v8, v9, v10, v11, v12, v13, A, B, C, D, M, N, X, rfl, ⟨H.bel, (by have h := H.f0; simpa [doneSet] using h), (by have h := H.f1; simpa [doneSet] using h), (fun _ => rfl), (fun _ => rfl), (by have h := H.f4; simpa [doneSet] using h), (by have h := H.f5; simpa [doneSet] using h), (by have h := H.f6; simpa [doneSet] using h), (by have h := H.f7; simpa [doneSet] using h), (by have h := H.f8; simpa [doneSet] using h), (by have h := H.f9; simpa [doneSet] using h), (by have h := H.f10; simpa [doneSet] using h), (by have h := H.f11; simpa [doneSet] using h), (by have h := H.f12; simpa [doneSet] using h), (by have h := H.ha; simpa [doneSet] using h), (by have h := H.hc; simpa [doneSet] using h), (by have h := H.hm; simpa [doneSet] using h), (by have h := H.k12; simpa [doneSet] using h), (by have h := H.x12; simpa [doneSet] using h), (by have h := H.k13; simpa [doneSet] using h), (by have h := H.g13_11; simpa [doneSet] using h), (by have h := H.g13_12; simpa [doneSet] using h)⟩⟩
      simp only [putAll, Act.put, List.setIfInBounds_toArray, List.set_cons_succ, List.set_cons_zero]
      all_goals rfl
    · rintro d vs W ⟨v0, v1, v2, v3, v4, v5, v6, v7, v8, v9, v10, v11, v12, v13, A, B, C, D, M, N, X, rfl, H⟩ hn hd
      simp only [putAll, Act.put, List.setIfInBounds_toArray, List.set_cons_succ, List.set_cons_zero]
      have h3 : d 3 = true := hd { on := 3, ground := .data } (by simp) rfl
      obtain rfl := H.f3 h3
      have HH1 : Hid (Rmm (wr.drew) ((.slice (some ⟨b, off, none⟩) ls.length cap)) ((.slice (some ⟨b', off', none⟩) ks.length cap')) ((.int .i64 (j : Int))) (⟨b, off + j * 2, none⟩) (⟨b', off' + j * 2, none⟩) (p) (r) (c) (z) d W v0 v1 v2 (.agg #[.float .f32 p, .float .f32 r]) v4 v5 v6 v7 v8 v9 v10 v11 v12 v13 A B C D M N X) := H
      clear H
      have HHN : Hid (d 4 = false) := hn
      have HHD : Hid (d 3 = true) := h3
      clear hd hn h3
      go_wp2_with (fail)
      refine (widM_c p r W).mono ?_
      rintro e' W3 ⟨x4, y4, rfl, hx4, hy4, b7⟩
      have HB7 : Hid (Below W.heap.size W W3) := b7
      have HX4 : Hid (fc .f64 x4 = (fc .f32 p).map wid ∧ fc .f64 y4 = (fc .f32 r).map wid) := ⟨hx4, hy4⟩
      clear b7 hx4 hy4
      go_wp2
      have H0 := HH1.out
      have H := HH1.out.below HB7.out
      have hn := HHN.out
      have h3 := HHD.out
      refine ⟨rfl, [v0, v1, v2, .agg #[.float .f32 p, .float .f32 r], .agg #[.float .f64 x4, .float .f64 y4], v5, v6, v7, v8, v9, v10, v11, v12, v13], ?_, v0, v1, v2, .agg #[.float .f32 p, .float .f32 r], .agg #[.float .f64 x4, .float .f64 y4], v5, v6, v7, v8, v9, v10, v11, v12, v13, x4, y4, C, D, M, N, X, rfl, ⟨H.bel, (by have h := H.f0; simpa [doneSet] using h), (by have h := H.f1; simpa [doneSet] using h), (by have h := H.f2; simpa [doneSet] using h), (fun _ => rfl), (fun _ => rfl), (by have h := H.f5; simpa [doneSet] using h), (by have h := H.f6; simpa [doneSet] using h), (by have h := H.f7; simpa [doneSet] using h), (by have h := H.f8; simpa [doneSet] using h), (by have h := H.f9; simpa [doneSet] using h), (by have h := H.f10; simpa [doneSet] using h), (by have h := H.f11; simpa [doneSet] using h), (by have h := H.f12; simpa [doneSet] using h), (fun _ => HX4.out), (by have h := H.hc; simpa [doneSet] using h), (by have h := H.hm; simpa [doneSet] using h), (by have h := H.k12; simpa [doneSet] using h), (by have h := H.x12; simpa [doneSet] using h), (by have h := H.k13; simpa [doneSet] using h), (by have h := H.g13_11; simpa [doneSet] using h), (by have h := H.g13_12; simpa [doneSet] using h)⟩⟩
      simp only [putAll, Act.put, List.setIfInBounds_toArray, List.set_cons_succ, List.set_cons_zero]
      all_goals rfl
    · rintro d vs W ⟨v0, v1, v2, v3, v4, v5, v6, v7, v8, v9, v10, v11, v12, v13, A, B, C, D, M, N, X, rfl, H⟩ hn hd
      simp only [putAll, Act.put, List.setIfInBounds_toArray, List.set_cons_succ, List.set_cons_zero]
      have HH1 : Hid (Rmm (wr.drew) ((.slice (some ⟨b, off, none⟩) ls.length cap)) ((.slice (some ⟨b', off', none⟩) ks.length cap')) ((.int .i64 (j : Int))) (⟨b, off + j * 2, none⟩) (⟨b', off' + j * 2, none⟩) (p) (r) (c) (z) d W v0 v1 v2 v3 v4 v5 v6 v7 v8 v9 v10 v11 v12 v13 A B C D M N X) := H
      clear H
      have HHN : Hid (d 5 = false) := hn
      clear hd hn
      go_wp2
      have H0 := HH1.out
      have H := HH1.out
      have hn := HHN.out
      refine ⟨rfl, [v0, v1, v2, v3, v4, ((.slice (some ⟨b', off', none⟩) ks.length cap')), v6, v7, v8, v9, v10, v11, v12, v13], ?_, v0, v1, v2, v3, v4, ((.slice (some ⟨b', off', none⟩) ks.length cap')), v6, v7, v8, v9, v10, v11, v12, v13, A, B, C, D, M, N, X, rfl, ⟨H.bel, (by have h := H.f0; simpa [doneSet] using h), (by have h := H.f1; simpa [doneSet] using h), (by have h := H.f2; simpa [doneSet] using h), (by have h := H.f3; simpa [doneSet] using h), (by have h := H.f4; simpa [doneSet] using h), (fun _ => rfl), (by have h := H.f6; simpa [doneSet] using h), (by have h := H.f7; simpa [doneSet] using h), (by have h := H.f8; simpa [doneSet] using h), (by have h := H.f9; simpa [doneSet] using h), (by have h := H.f10; simpa [doneSet] using h), (by have h := H.f11; simpa [doneSet] using h), (by have h := H.f12; simpa [doneSet] using h), (by have h := H.ha; simpa [doneSet] using h), (by have h := H.hc; simpa [doneSet] using h), (by have h := H.hm; simpa [doneSet] using h), (by have h := H.k12; simpa [doneSet] using h), (by have h := H.x12; simpa [doneSet] using h), (by have h := H.k13; simpa [doneSet] using h), (by have h := H.g13_11; simpa [doneSet] using h), (by have h := H.g13_12; simpa [doneSet] using h)⟩⟩
      simp only [putAll, Act.put, List.setIfInBounds_toArray, List.set_cons_succ, List.set_cons_zero]
      all_goals rfl
    · rintro d vs W ⟨v0, v1, v2, v3, v4, v5, v6, v7, v8, v9, v10, v11, v12, v13, A, B, C, D, M, N, X, rfl, H⟩ hn hd
      simp only [putAll, Act.put, List.setIfInBounds_toArray, List.set_cons_succ, List.set_cons_zero]
      have HH1 : Hid (Rmm (wr.drew) ((.slice (some ⟨b, off, none⟩) ls.length cap)) ((.slice (some ⟨b', off', none⟩) ks.length cap')) ((.int .i64 (j : Int))) (⟨b, off + j * 2, none⟩) (⟨b', off' + j * 2, none⟩) (p) (r) (c) (z) d W v0 v1 v2 v3 v4 v5 v6 v7 v8 v9 v10 v11 v12 v13 A B C D M N X) := H
      clear H
      have HHN : Hid (d 6 = false) := hn
      clear hd hn
      go_wp2
      have H0 := HH1.out
      have H := HH1.out
      have hn := HHN.out
      refine ⟨rfl, [v0, v1, v2, v3, v4, v5, ((.int .i64 (j : Int))), v7, v8, v9, v10, v11, v12, v13], ?_, v0, v1, v2, v3, v4, v5, ((.int .i64 (j : Int))), v7, v8, v9, v10, v11, v12, v13, A, B, C, D, M, N, X, rfl, ⟨H.bel, (by have h := H.f0; simpa [doneSet] using h), (by have h := H.f1; simpa [doneSet] using h), (by have h := H.f2; simpa [doneSet] using h), (by have h := H.f3; simpa [doneSet] using h), (by have h := H.f4; simpa [doneSet] using h), (by have h := H.f5; simpa [doneSet] using h), (fun _ => rfl), (by have h := H.f7; simpa [doneSet] using h), (by have h := H.f8; simpa [doneSet] using h), (by have h := H.f9; simpa [doneSet] using h), (by have h := H.f10; simpa [doneSet] using h), (by have h := H.f11; simpa [doneSet] using h), (by have h := H.f12; simpa [doneSet] using h), (by have h := H.ha; simpa [doneSet] using h), (by have h := H.hc; simpa [doneSet] using h), (by have h := H.hm; simpa [doneSet] using h), (by have h := H.k12; simpa [doneSet] using h), (by have h := H.x12; simpa [doneSet] using h), (by have h := H.k13; simpa [doneSet] using h), (by have h := H.g13_11; simpa [doneSet] using h), (by have h := H.g13_12; simpa [doneSet] using h)⟩⟩
      simp only [putAll, Act.put, List.setIfInBounds_toArray, List.set_cons_succ, List.set_cons_zero]
      all_goals rfl
    · rintro d vs W ⟨v0, v1, v2, v3, v4, v5, v6, v7, v8, v9, v10, v11, v12, v13, A, B, C, D, M, N, X, rfl, H⟩ hn hd
      simp only [putAll, Act.put, List.setIfInBounds_toArray, List.set_cons_succ, List.set_cons_zero]
      have h5 : d 5 = true := hd { on := 5, ground := .data } (by simp) rfl
      have h6 : d 6 = true := hd { on := 6, ground := .data } (by simp) rfl
      obtain rfl := H.f5 h5
      obtain rfl := H.f6 h6
      have HH1 : Hid (Rmm (wr.drew) ((.slice (some ⟨b, off, none⟩) ls.length cap)) ((.slice (some ⟨b', off', none⟩) ks.length cap')) ((.int .i64 (j : Int))) (⟨b, off + j * 2, none⟩) (⟨b', off' + j * 2, none⟩) (p) (r) (c) (z) d W v0 v1 v2 v3 v4 (((.slice (some ⟨b', off', none⟩) ks.length cap'))) (((.int .i64 (j : Int)))) v7 v8 v9 v10 v11 v12 v13 A B C D M N X) := H
      clear H
      have HHN : Hid (d 7 = false) := hn
      have HHD : Hid (d 5 = true ∧ d 6 = true) := ⟨h5, h6⟩
      clear hd hn h5 h6
      go_wp2
      have H0 := HH1.out
      have H := HH1.out
      have hn := HHN.out
      have h5 := HHD.out.1
      have h6 := HHD.out.2
      refine ⟨rfl, [v0, v1, v2, v3, v4, ((.slice (some ⟨b', off', none⟩) ks.length cap')), ((.int .i64 (j : Int))), .pointer (some (⟨b', off' + j * 2, none⟩)), v8, v9, v10, v11, v12, v13], ?_, v0, v1, v2, v3, v4, ((.slice (some ⟨b', off', none⟩) ks.length cap')), ((.int .i64 (j : Int))), .pointer (some (⟨b', off' + j * 2, none⟩)), v8, v9, v10, v11, v12, v13, A, B, C, D, M, N, X, rfl, ⟨H.bel, (by have h := H.f0; simpa [doneSet] using h), (by have h := H.f1; simpa [doneSet] using h), (by have h := H.f2; simpa [doneSet] using h), (by have h := H.f3; simpa [doneSet] using h), (by have h := H.f4; simpa [doneSet] using h), (fun _ => rfl), (fun _ => rfl), (fun _ => rfl), (by have h := H.f8; simpa [doneSet] using h), (by have h := H.f9; simpa [doneSet] using h), (by have h := H.f10; simpa [doneSet] using h), (by have h := H.f11; simpa [doneSet] using h), (by have h := H.f12; simpa [doneSet] using h), (by have h := H.ha; simpa [doneSet] using h), (by have h := H.hc; simpa [doneSet] using h), (by have h := H.hm; simpa [doneSet] using h), (by have h := H.k12; simpa [doneSet] using h), (by have h := H.x12; simpa [doneSet] using h), (by have h := H.k13; simpa [doneSet] using h), (by have h := H.g13_11; simpa [doneSet] using h), (by have h := H.g13_12; simpa [doneSet] using h)⟩⟩
      simp only [putAll, Act.put, List.setIfInBounds_toArray, List.set_cons_succ, List.set_cons_zero]
      all_goals rfl
    · rintro d vs W ⟨v0, v1, v2, v3, v4, v5, v6, v7, v8, v9, v10, v11, v12, v13, A, B, C, D, M, N, X, rfl, H⟩ hn hd
      simp only [putAll, Act.put, List.setIfInBounds_toArray, List.set_cons_succ, List.set_cons_zero]
      have h7 : d 7 = true := hd { on := 7, ground := .data } (by simp) rfl
      obtain ⟨g0, g1, g2, g3⟩ := CE.out W H.bel
      obtain rfl := H.f7 h7
      have HH1 : Hid (Rmm (wr.drew) ((.slice (some ⟨b, off, none⟩) ls.length cap)) ((.slice (some ⟨b', off', none⟩) ks.length cap')) ((.int .i64 (j : Int))) (⟨b, off + j * 2, none⟩) (⟨b', off' + j * 2, none⟩) (p) (r) (c) (z) d W v0 v1 v2 v3 v4 v5 v6 (.pointer (some (⟨b', off' + j * 2, none⟩))) v8 v9 v10 v11 v12 v13 A B C D M N X) := H
      clear H
      have HHN : Hid (d 8 = false) := hn
      have HHD : Hid (d 7 = true) := h7
      clear hd hn h7 g0 g1
      go_wp2
      have H0 := HH1.out
      have H := HH1.out
      have hn := HHN.out
      have h7 := HHD.out
      refine ⟨rfl, [v0, v1, v2, v3, v4, v5, v6, .pointer (some (⟨b', off' + j * 2, none⟩)), .agg #[.float .f32 c, .float .f32 z], v9, v10, v11, v12, v13], ?_, v0, v1, v2, v3, v4, v5, v6, .pointer (some (⟨b', off' + j * 2, none⟩)), .agg #[.float .f32 c, .float .f32 z], v9, v10, v11, v12, v13, A, B, C, D, M, N, X, rfl, ⟨H.bel, (by have h := H.f0; simpa [doneSet] using h), (by have h := H.f1; simpa [doneSet] using h), (by have h := H.f2; simpa [doneSet] using h), (by have h := H.f3; simpa [doneSet] using h), (by have h := H.f4; simpa [doneSet] using h), (by have h := H.f5; simpa [doneSet] using h), (by have h := H.f6; simpa [doneSet] using h), (fun _ => rfl), (fun _ => rfl), (by have h := H.f9; simpa [doneSet] using h), (by have h := H.f10; simpa [doneSet] using h), (by have h := H.f11; simpa [doneSet] using h), (by have h := H.f12; simpa [doneSet] using h), (by have h := H.ha; simpa [doneSet] using h), (by have h := H.hc; simpa [doneSet] using h), (by have h := H.hm; simpa [doneSet] using h), (by have h := H.k12; simpa [doneSet] using h), (by have h := H.x12; simpa [doneSet] using h), (by have h := H.k13; simpa [doneSet] using h), (by have h := H.g13_11; simpa [doneSet] using h), (by have h := H.g13_12; simpa [doneSet] using h)⟩⟩
      simp only [putAll, Act.put, List.setIfInBounds_toArray, List.set_cons_succ, List.set_cons_zero]
      all_goals rfl
    · rintro d vs W ⟨v0, v1, v2, v3, v4, v5, v6, v7, v8, v9, v10, v11, v12, v13, A, B, C, D, M, N, X, rfl, H⟩ hn hd
      simp only [putAll, Act.put, List.setIfInBounds_toArray, List.set_cons_succ, List.set_cons_zero]
      have h8 : d 8 = true := hd { on := 8, ground := .data } (by simp) rfl
      obtain rfl := H.f8 h8
      have HH1 : Hid (Rmm (wr.drew) ((.slice (some ⟨b, off, none⟩) ls.length cap)) ((.slice (some ⟨b', off', none⟩) ks.length cap')) ((.int .i64 (j : Int))) (⟨b, off + j * 2, none⟩) (⟨b', off' + j * 2, none⟩) (p) (r) (c) (z) d W v0 v1 v2 v3 v4 v5 v6 v7 (.agg #[.float .f32 c, .float .f32 z]) v9 v10 v11 v12 v13 A B C D M N X) := H
      clear H
      have HHN : Hid (d 9 = false) := hn
      have HHD : Hid (d 8 = true) := h8
      clear hd hn h8
      go_wp2_with (fail)
      refine (bar_c c z W).mono ?_
      rintro e' W3 ⟨rfl, b7⟩
      have HB7 : Hid (Below W.heap.size W W3) := b7
      clear b7
      go_wp2
      have H0 := HH1.out
      have H := HH1.out.below HB7.out
      have hn := HHN.out
      have h8 := HHD.out
      refine ⟨rfl, [v0, v1, v2, v3, v4, v5, v6, v7, .agg #[.float .f32 c, .float .f32 z], .agg #[.float .f32 c, .float .f32 (Op.negFloat .f32 z)], v10, v11, v12, v13], ?_, v0, v1, v2, v3, v4, v5, v6, v7, .agg #[.float .f32 c, .float .f32 z], .agg #[.float .f32 c, .float .f32 (Op.negFloat .f32 z)], v10, v11, v12, v13, A, B, C, D, M, N, X, rfl, ⟨H.bel, (by have h := H.f0; simpa [doneSet] using h), (by have h := H.f1; simpa [doneSet] using h), (by have h := H.f2; simpa [doneSet] using h), (by have h := H.f3; simpa [doneSet] using h), (by have h := H.f4; simpa [doneSet] using h), (by have h := H.f5; simpa [doneSet] using h), (by have h := H.f6; simpa [doneSet] using h), (by have h := H.f7; simpa [doneSet] using h), (fun _ => rfl), (fun _ => rfl), (by have h := H.f10; simpa [doneSet] using h), (by have h := H.f11; simpa [doneSet] using h), (by have h := H.f12; simpa [doneSet] using h), (by have h := H.ha; simpa [doneSet] using h), (by have h := H.hc; simpa [doneSet] using h), (by have h := H.hm; simpa [doneSet] using h), (by have h := H.k12; simpa [doneSet] using h), (by have h := H.x12; simpa [doneSet] using h), (by have h := H.k13; simpa [doneSet] using h), (by have h := H.g13_11; simpa [doneSet] using h), (by have h := H.g13_12; simpa [doneSet] using h)⟩⟩
      simp only [putAll, Act.put, List.setIfInBounds_toArray, List.set_cons_succ, List.set_cons_zero]
      all_goals rfl
    · rintro d vs W ⟨v0, v1, v2, v3, v4, v5, v6, v7, v8, v9, v10, v11, v12, v13, A, B, C, D, M, N, X, rfl, H⟩ hn hd
      simp only [putAll, Act.put, List.setIfInBounds_toArray, List.set_cons_succ, List.set_cons_zero]
      have h9 : d 9 = true := hd { on := 9, ground := .data } (by simp) rfl
      obtain rfl := H.f9 h9
      have HH1 : Hid (Rmm (wr.drew) ((.slice (some ⟨b, off, none⟩) ls.length cap)) ((.slice (some ⟨b', off', none⟩) ks.length cap')) ((.int .i64 (j : Int))) (⟨b, off + j * 2, none⟩) (⟨b', off' + j * 2, none⟩) (p) (r) (c) (z) d W v0 v1 v2 v3 v4 v5 v6 v7 v8 (.agg #[.float .f32 c, .float .f32 (Op.negFloat .f32 z)]) v10 v11 v12 v13 A B C D M N X) := H
      clear H
      have HHN : Hid (d 10 = false) := hn
      have HHD : Hid (d 9 = true) := h9
      clear hd hn h9
      go_wp2_with (fail)
      refine (widM_c c (Op.negFloat .f32 z) W).mono ?_
      rintro e' W3 ⟨x4, y4, rfl, hx4, hy4, b7⟩
      have HB7 : Hid (Below W.heap.size W W3) := b7
      have HX4 : Hid (fc .f64 x4 = (fc .f32 c).map wid ∧ fc .f64 y4 = (fc .f32 (Op.negFloat .f32 z)).map wid) := ⟨hx4, hy4⟩
      clear b7 hx4 hy4
      go_wp2
      have H0 := HH1.out
      have H := HH1.out.below HB7.out
      have hn := HHN.out
      have h9 := HHD.out
      refine ⟨rfl, [v0, v1, v2, v3, v4, v5, v6, v7, v8, .agg #[.float .f32 c, .float .f32 (Op.negFloat .f32 z)], .agg #[.float .f64 x4, .float .f64 y4], v11, v12, v13], ?_, v0, v1, v2, v3, v4, v5, v6, v7, v8, .agg #[.float .f32 c, .float .f32 (Op.negFloat .f32 z)], .agg #[.float .f64 x4, .float .f64 y4], v11, v12, v13, A, B, x4, y4, M, N, X, rfl, ⟨H.bel, (by have h := H.f0; simpa [doneSet] using h), (by have h := H.f1; simpa [doneSet] using h), (by have h := H.f2; simpa [doneSet] using h), (by have h := H.f3; simpa [doneSet] using h), (by have h := H.f4; simpa [doneSet] using h), (by have h := H.f5; simpa [doneSet] using h), (by have h := H.f6; simpa [doneSet] using h), (by have h := H.f7; simpa [doneSet] using h), (by have h := H.f8; simpa [doneSet] using h), (fun _ => rfl), (fun _ => rfl), (by have h := H.f11; simpa [doneSet] using h), (by have h := H.f12; simpa [doneSet] using h), (by have h := H.ha; simpa [doneSet] using h), (fun _ => HX4.out), (by have h := H.hm; simpa [doneSet] using h), (by have h := H.k12; simpa [doneSet] using h), (by have h := H.x12; simpa [doneSet] using h), (by have h := H.k13; simpa [doneSet] using h), (by have h := H.g13_11; simpa [doneSet] using h), (by have h := H.g13_12; simpa [doneSet] using h)⟩⟩
      simp only [putAll, Act.put, List.setIfInBounds_toArray, List.set_cons_succ, List.set_cons_zero]
      all_goals rfl
    · rintro d vs W ⟨v0, v1, v2, v3, v4, v5, v6, v7, v8, v9, v10, v11, v12, v13, A, B, C, D, M, N, X, rfl, H⟩ hn hd
      simp only [putAll, Act.put, List.setIfInBounds_toArray, List.set_cons_succ, List.set_cons_zero]
      have h4 : d 4 = true := hd { on := 4, ground := .data } (by simp) rfl
      have h10 : d 10 = true := hd { on := 10, ground := .data } (by simp) rfl
      have HAC : Hid ((fc .f64 A = (fc .f32 p).map wid ∧ fc .f64 B = (fc .f32 r).map wid) ∧ fc .f64 C = (fc .f32 c).map wid ∧ fc .f64 D = (fc .f32 (Op.negFloat .f32 z)).map wid) := ⟨H.ha h4, H.hc h10⟩
      obtain rfl := H.f4 h4
      obtain rfl := H.f10 h10
      have HH1 : Hid (Rmm (wr.drew) ((.slice (some ⟨b, off, none⟩) ls.length cap)) ((.slice (some ⟨b', off', none⟩) ks.length cap')) ((.int .i64 (j : Int))) (⟨b, off + j * 2, none⟩) (⟨b', off' + j * 2, none⟩) (p) (r) (c) (z) d W v0 v1 v2 v3 (.agg #[.float .f64 A, .float .f64 B]) v5 v6 v7 v8 v9 (.agg #[.float .f64 C, .float .f64 D]) v11 v12 v13 A B C D M N X) := H
      clear H
      have HHN : Hid (d 11 = false) := hn
      have HHD : Hid (d 4 = true ∧ d 10 = true) := ⟨h4, h10⟩
      clear hd hn h4 h10
      go_wp2_with (fail)
      refine (mulM_c A B C D W).mono ?_
      rintro e' W3 ⟨x4, y4, rfl, hx4, hy4, b7⟩
      have HB7 : Hid (Below W.heap.size W W3) := b7
      have HX4 : Hid (fc .f64 x4 = pXR p r c z ∧ fc .f64 y4 = pXI p r c z) := ⟨by rw [hx4, HAC.out.1.1, HAC.out.1.2, HAC.out.2.1, HAC.out.2.2]; rfl, by rw [hy4, HAC.out.1.1, HAC.out.1.2, HAC.out.2.1, HAC.out.2.2]; rfl⟩
      clear b7 hx4 hy4
      go_wp2
      have H0 := HH1.out
      have H := HH1.out.below HB7.out
      have hn := HHN.out
      have h4 := HHD.out.1
      have h10 := HHD.out.2
      refine ⟨rfl, [v0, v1, v2, v3, .agg #[.float .f64 A, .float .f64 B], v5, v6, v7, v8, v9, .agg #[.float .f64 C, .float .f64 D], .agg #[.float .f64 x4, .float .f64 y4], v12, v13], ?_, v0, v1, v2, v3, .agg #[.float .f64 A, .float .f64 B], v5, v6, v7, v8, v9, .agg #[.float .f64 C, .float .f64 D], .agg #[.float .f64 x4, .float .f64 y4], v12, v13, A, B, C, D, x4, y4, X, rfl, ⟨H.bel, (by have h := H.f0; simpa [doneSet] using h), (by have h := H.f1; simpa [doneSet] using h), (by have h := H.f2; simpa [doneSet] using h), (by have h := H.f3; simpa [doneSet] using h), (fun _ => rfl), (by have h := H.f5; simpa [doneSet] using h), (by have h := H.f6; simpa [doneSet] using h), (by have h := H.f7; simpa [doneSet] using h), (by have h := H.f8; simpa [doneSet] using h), (by have h := H.f9; simpa [doneSet] using h), (fun _ => rfl), (fun _ => rfl), (by have h := H.f12; simpa [doneSet] using h), (by have h := H.ha; simpa [doneSet] using h), (by have h := H.hc; simpa [doneSet] using h), (fun _ => HX4.out), (by have h := H.k12; simpa [doneSet] using h), (by have h := H.x12; simpa [doneSet] using h), (fun e => absurd (H0.g13_11 (by simpa [doneSet] using e)) (by rw [hn]; simp)), (fun _ => by simp [doneSet]), (by have h := H.g13_12; simpa [doneSet] using h)⟩⟩
      simp only [putAll, Act.put, List.setIfInBounds_toArray, List.set_cons_succ, List.set_cons_zero]
      all_goals rfl
    · rintro d vs W ⟨v0, v1, v2, v3, v4, v5, v6, v7, v8, v9, v10, v11, v12, v13, A, B, C, D, M, N, X, rfl, H⟩ hn hd
      simp only [putAll, Act.put, List.setIfInBounds_toArray, List.set_cons_succ, List.set_cons_zero]
      have HH1 : Hid (Rmm (wr.drew) ((.slice (some ⟨b, off, none⟩) ls.length cap)) ((.slice (some ⟨b', off', none⟩) ks.length cap')) ((.int .i64 (j : Int))) (⟨b, off + j * 2, none⟩) (⟨b', off' + j * 2, none⟩) (p) (r) (c) (z) d W v0 v1 v2 v3 v4 v5 v6 v7 v8 v9 v10 v11 v12 v13 A B C D M N X) := H
      clear H
      have HHN : Hid (d 12 = false) := hn
      clear hd hn
      go_wp2
      have H0 := HH1.out
      have H := HH1.out.below ((Below.refl _ W).alloc (Nat.le_refl _) (.cells #[.float .f64 0, .float .f64 0] 38))
      have hn := HHN.out
      refine ⟨rfl, [v0, v1, v2, v3, v4, v5, v6, v7, v8, v9, v10, v11, .pointer (some ⟨W.heap.size, 0, none⟩), v13], ?_, v0, v1, v2, v3, v4, v5, v6, v7, v8, v9, v10, v11, .pointer (some ⟨W.heap.size, 0, none⟩), v13, A, B, C, D, M, N, W.heap.size, rfl, ⟨H.bel, (by have h := H.f0; simpa [doneSet] using h), (by have h := H.f1; simpa [doneSet] using h), (by have h := H.f2; simpa [doneSet] using h), (by have h := H.f3; simpa [doneSet] using h), (by have h := H.f4; simpa [doneSet] using h), (by have h := H.f5; simpa [doneSet] using h), (by have h := H.f6; simpa [doneSet] using h), (by have h := H.f7; simpa [doneSet] using h), (by have h := H.f8; simpa [doneSet] using h), (by have h := H.f9; simpa [doneSet] using h), (by have h := H.f10; simpa [doneSet] using h), (by have h := H.f11; simpa [doneSet] using h), (fun _ => rfl), (by have h := H.ha; simpa [doneSet] using h), (by have h := H.hc; simpa [doneSet] using h), (by have h := H.hm; simpa [doneSet] using h), (fun _ _ => Blk.new _ _ _), (fun _ => H0.bel.size), (fun e => absurd (H0.g13_12 (by simpa [doneSet] using e)) (by rw [hn]; simp)), (by have h := H.g13_11; simpa [doneSet] using h), (fun _ => by simp [doneSet])⟩⟩
      simp only [putAll, Act.put, List.setIfInBounds_toArray, List.set_cons_succ, List.set_cons_zero]
      all_goals rfl
    · rintro d vs W ⟨v0, v1, v2, v3, v4, v5, v6, v7, v8, v9, v10, v11, v12, v13, A, B, C, D, M, N, X, rfl, H⟩ hn hd
      simp only [putAll, Act.put, List.setIfInBounds_toArray, List.set_cons_succ, List.set_cons_zero]
      have h12 : d 12 = true := hd { on := 12, ground := .data } (by simp) rfl
      have h11 : d 11 = true := hd { on := 11, ground := .data } (by simp) rfl
      have K5 := H.k12 h12 hn
      have HK5 : Hid (Blk W X #[.float .f64 0, .float .f64 0] 38) := K5
      have HX5 : Hid (wr.drew.heap.size ≤ X) := H.x12 h12
      have z0 := K5.cell 0
      have z1 := K5.cell 1
      have f0 := K5.frozen 0
      have f1 := K5.frozen 1
      simp at z0 z1
      clear K5
      obtain rfl := H.f12 h12
      obtain rfl := H.f11 h11
      have HH1 : Hid (Rmm (wr.drew) ((.slice (some ⟨b, off, none⟩) ls.length cap)) ((.slice (some ⟨b', off', none⟩) ks.length cap')) ((.int .i64 (j : Int))) (⟨b, off + j * 2, none⟩) (⟨b', off' + j * 2, none⟩) (p) (r) (c) (z) d W v0 v1 v2 v3 v4 v5 v6 v7 v8 v9 v10 (.agg #[.float .f64 M, .float .f64 N]) (.pointer (some ⟨X, 0, none⟩)) v13 A B C D M N X) := H
      clear H
      have HHN : Hid (d 13 = false) := hn
      have HHD : Hid (d 12 = true ∧ d 11 = true) := ⟨h12, h11⟩
      clear hd hn h12 h11
      go_wp2
      have H0 := HH1.out
      have H := HH1.out
      have hn := HHN.out
      have h12 := HHD.out.1
      have h11 := HHD.out.2
      refine ⟨rfl, [v0, v1, v2, v3, v4, v5, v6, v7, v8, v9, v10, .agg #[.float .f64 M, .float .f64 N], .pointer (some ⟨X, 0, none⟩), undef], ?_, v0, v1, v2, v3, v4, v5, v6, v7, v8, v9, v10, .agg #[.float .f64 M, .float .f64 N], .pointer (some ⟨X, 0, none⟩), undef, A, B, C, D, M, N, X, rfl, ⟨(below_set2 H0.bel _ HX5.out _ _), (by have h := H.f0; simpa [doneSet] using h), (by have h := H.f1; simpa [doneSet] using h), (by have h := H.f2; simpa [doneSet] using h), (by have h := H.f3; simpa [doneSet] using h), (by have h := H.f4; simpa [doneSet] using h), (by have h := H.f5; simpa [doneSet] using h), (by have h := H.f6; simpa [doneSet] using h), (by have h := H.f7; simpa [doneSet] using h), (by have h := H.f8; simpa [doneSet] using h), (by have h := H.f9; simpa [doneSet] using h), (by have h := H.f10; simpa [doneSet] using h), (fun _ => rfl), (fun _ => rfl), (by have h := H.ha; simpa [doneSet] using h), (by have h := H.hc; simpa [doneSet] using h), (by have h := H.hm; simpa [doneSet] using h), (fun _ e => absurd e (by simp [doneSet])), (by have h := H.x12; simpa [doneSet] using h), (fun _ => Blk.set2 HK5.out _ _), (fun _ => by simpa [doneSet] using h11), (fun _ => by simpa [doneSet] using h12)⟩⟩
      simp only [putAll, Act.put, List.setIfInBounds_toArray, List.set_cons_succ, List.set_cons_zero]
      all_goals rfl
    rintro d' vs W ⟨v0, v1, v2, v3, v4, v5, v6, v7, v8, v9, v10, v11, v12, v13, A, B, C, D, M, N, X, rfl, H⟩ hn
    obtain rfl := H.f0 (hn 0 (by decide))
    obtain rfl := H.f1 (hn 1 (by decide))
    obtain rfl := H.f2 (hn 2 (by decide))
    obtain rfl := H.f3 (hn 3 (by decide))
    obtain rfl := H.f4 (hn 4 (by decide))
    obtain rfl := H.f5 (hn 5 (by decide))
    obtain rfl := H.f6 (hn 6 (by decide))
    obtain rfl := H.f7 (hn 7 (by decide))
    obtain rfl := H.f8 (hn 8 (by decide))
    obtain rfl := H.f9 (hn 9 (by decide))
    obtain rfl := H.f10 (hn 10 (by decide))
    obtain rfl := H.f11 (hn 11 (by decide))
    obtain rfl := H.f12 (hn 12 (by decide))
    have HO : Hid (fc .f64 M = pXR p r c z ∧ fc .f64 N = pXI p r c z) := H.hm (hn 11 (by decide))
    have HX : Hid (Blk W X #[.float .f64 M, .float .f64 N] 38) := H.k13 (hn 13 (by decide))
    have BW : Below wr.heap.size wr W := (Below.refl _ _).drew.trans H.bel
    have HU : Hid (Below w.heap.size w W) := HB.out.trans (BW.mono HB.out.size)
    have HKW : Hid (Blk W w.heap.size #[.float .f64 0, .float .f64 0] 38 ∧ Blk W (w.heap.size + 1) #[.float .f64 u, .float .f64 y] 38) := ⟨HK.out.1.below BW HK.out.1.lt, HK.out.2.below BW HK.out.2.lt⟩
    clear H hn CE BW
    simp only [putAll, Act.put, List.setIfInBounds_toArray, List.set_cons_succ, List.set_cons_zero]
    have c0 := HKW.out.2.cell 0
    have c1 := HKW.out.2.cell 1
    have d0 := HX.out.cell 0
    have d1 := HX.out.cell 1
    have f0 := HKW.out.2.frozen 0
    have f1 := HKW.out.2.frozen 1
    simp at c0 c1 d0 d1
    go_wp2
    go_roundw
    case rel =>
      refine ⟨j + 1, _, _, by omega, by go_num, ⟨?_, ?_⟩, ⟨Blk.set2o (HKW.out.1.drewN _) (by omega) _ _, Blk.set2 (HKW.out.2.drewN _) _ _⟩, below_set2 (below_drewN HU.out _) _ (by omega) _ _⟩
      · rw [fc_fv, HO.out.1, HF.out.1]; show _ = fo _ _ _ _; rw [HG.out, HG'.out]
      · rw [fc_fv, HO.out.2, HF.out.2]; show _ = fo _ _ _ _; rw [HG.out, HG'.out]
    case measure => simp [intOf]; omega

end Go.Proofs.Ytginhbcenfobcaa
