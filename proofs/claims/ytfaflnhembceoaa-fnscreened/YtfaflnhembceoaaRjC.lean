/- The program's Route7; no condition. -/
import Derived.Test.YtfaflnhembceoaaRjB
namespace Go.Proofs.Ytfaflnhembceoaa
open Go.RowKit Go.ChangeShapes Go.WideShapes Go.ChangeAt
set_option linter.unusedVariables false
set_option linter.unusedSimpArgs false
set_option maxRecDepth 8000
theorem rg_rt {cs : Sbs} {F U : Nat} (h : goodB cs (F : Int) (U : Int)) : rtF cs (F : Int) (U : Int) = rgF cs F U := by
  rw [rtF, if_pos h, rgF, Int.toNat_natCast, Int.toNat_natCast]
set_option maxHeartbeats 3200000 in
theorem routeI_c (v : Value) (cs : Sbs) (f t : Int) (w : World) (h : RdS w v cs) (hn : cs.length ≤ 1048576) (hm : ∀ c ∈ cs, c.2.2.length ≤ 1048576) : Calls Try.prog 12 #[v, .int .i64 f, .int .i64 t] w (RtR (rtF cs f t) w) := by
  have HRD : Hid (RdS w v cs) := h
  have HMM : Hid (∀ c ∈ cs, c.2.2.length ≤ 1048576) := hm
  obtain ⟨a, cap, rfl, g1, g2⟩ := h.len
  unfold maxLen at g2
  obtain ⟨n, hnn⟩ : ∃ n, cs.length = n := ⟨_, rfl⟩
  have HN : Hid (cs.length = n) := hnn
  rw [hnn] at g1 hn HRD ⊢
  clear h hnn hm
  obtain ⟨W0, hW0⟩ : ∃ W0, w.alloc (Obj.cells (O3 0 0 (.slice none 0 0)) 29) = W0 := ⟨_, rfl⟩
  have hb0 : Below w.heap.size w W0 := hW0 ▸ (Below.refl _ _).alloc (Nat.le_refl _) _
  have B0 : Hid (Below w.heap.size w W0) := hb0
  have K0 : Hid (Blk W0 w.heap.size (O3 0 0 (.slice none 0 0)) 29) := hW0 ▸ Blk.new _ _ _
  have FIN : Hid (∀ (W : World) (c a : Int) (v : Value) (hops : List Int) (cells : Array Value), Blk W w.heap.size cells 29 → cells.size = 3 → Ow .i64 3 (w.heap.size + 1) W v hops → Below w.heap.size w W → rtF cs f t = (c, a, hops) → ∀ A : Act, A.tmps.getD 6 undef = .pointer (some ⟨w.heap.size, 0, none⟩) → A.defers = [] → bodyPost Try.prog Try.f12 (RtR (rtF cs f t) w) Exit.ret A (((W.setCell ⟨w.heap.size, 0, none⟩ (.int .i64 c)).setCell ⟨w.heap.size, 1, none⟩ (.int .i64 a)).setCell ⟨w.heap.size, 2, none⟩ v)) := by
    intro W c a v hops cells hk hc ho hb he A hA hD
    obtain ⟨q1, q2, q3⟩ := rt_fin c a hk hc ho hb
    rw [he]
    exact bodyPost_ret (v := .agg (O3 c a v)) (results_cell_row rfl _ _ _ 29 _ (0, 0) _ hA q1 Try.underlying29 rfl size29) hD ⟨v, rfl, q2, q3⟩
  clear hb0
  go_enter Try.func12, Try.ntmps12
  go_wp2_with (fail)
  clear hW0
  refine (subsI_c _ cs W0 (HRD.out.below B0.out)).mono ?_
  rintro e w1 ⟨r, rfl, hr, b1⟩
  have B1 : Hid (Below w.heap.size w w1) := belowCall B0.out b1 B0.out.size
  have K1 : Hid (Blk w1 w.heap.size (O3 0 0 (.slice none 0 0)) 29) := K0.out.below b1 K0.out.lt
  have HQ : Hid (r = true ↔ SbOk cs) := hr
  clear hr b1 B0 K0
  have r0 := K1.out.cell 0
  have r1 := K1.out.cell 1
  have r2 := K1.out.cell 2
  have rz0 := K1.out.frozen 0
  have rz1 := K1.out.frozen 1
  have rz2 := K1.out.frozen 2
  simp at r0 r1 r2
  cases r with
  | false =>
    have HY : Hid (rtF cs f t = (8, -1, [])) := by
      show rtF cs f t = (8, -1, [])
      rw [rtF, if_neg (fun g => by have := HQ.out.2 g.1; cases this)]
    go_wp2
    exact FIN.out _ 8 (-1) _ [] _ K1.out rfl (Ow.nil ..) B1.out HY.out _ rfl rfl
  | true =>
  have HOK : Hid (SbOk cs) := HQ.out.1 rfl
  clear HQ
  go_wp2_with (fail)
  refine (subOk_c f n w1).mono ?_
  rintro e wq ⟨rfl, hwq⟩
  rw [hwq]
  clear hwq wq
  by_cases hf : 0 ≤ f ∧ f < (n : Int)
  case neg =>
    rw [decide_eq_false hf]
    have HY : Hid (rtF cs f t = (8, -1, [])) := by
      show rtF cs f t = (8, -1, [])
      rw [rtF, if_neg (fun g => hf (by have := g.2.1; have := HN.out; omega))]
    go_wp2
    exact FIN.out _ 8 (-1) _ [] _ K1.out rfl (Ow.nil ..) B1.out HY.out _ rfl rfl
  rw [decide_eq_true hf]
  go_wp2_with (fail)
  refine (subOk_c t n w1).mono ?_
  rintro e wq ⟨rfl, hwq⟩
  rw [hwq]
  clear hwq wq
  by_cases ht : 0 ≤ t ∧ t < (n : Int)
  case neg =>
    rw [decide_eq_false ht]
    have HY : Hid (rtF cs f t = (8, -1, [])) := by
      show rtF cs f t = (8, -1, [])
      rw [rtF, if_neg (fun g => ht (by have := g.2.2.1; have := HN.out; omega))]
    go_wp2
    exact FIN.out _ 8 (-1) _ [] _ K1.out rfl (Ow.nil ..) B1.out HY.out _ rfl rfl
  rw [decide_eq_true ht]
  by_cases hft : f = t
  case pos =>
    have y : (f == t) = true := by simp [hft]
    have HY : Hid (rtF cs f t = (8, -1, [])) := by
      show rtF cs f t = (8, -1, [])
      rw [rtF, if_neg (fun g => g.2.2.2 hft)]
    clear hft
    go_wp2
    exact FIN.out _ 8 (-1) _ [] _ K1.out rfl (Ow.nil ..) B1.out HY.out _ rfl rfl
  have y : (f == t) = false := by simp [hft]
  have HG : Hid (goodB cs f t) := ⟨HOK.out, by rw [HN.out]; exact hf, by rw [HN.out]; exact ht, hft⟩
  obtain ⟨F, rfl⟩ : ∃ F : Nat, f = F := ⟨f.toNat, by omega⟩
  obtain ⟨U, rfl⟩ : ∃ U : Nat, t = U := ⟨t.toNat, by omega⟩
  have hF : F < n := by omega
  have hU : U < n := by omega
  have HRG : Hid (rtF cs (F : Int) (U : Int) = rgF cs F U) := rg_rt HG.out
  clear hft hf ht r0 r1 r2 rz0 rz1 rz2
  go_wp2_with (fail)
  refine (openSubs_c _ cs w1 (HRD.out.below B1.out) (by rw [HN.out]; exact hn) HMM.out).mono ?_
  rintro e w2 ⟨lv, rfl, hL, b2⟩
  have B2 : Hid (Below w.heap.size w w2) := belowCall B1.out b2 B1.out.size
  have K2 : Hid (Blk w2 w.heap.size (O3 0 0 (.slice none 0 0)) 29) := K1.out.below b2 K1.out.lt
  have HL : Hid (RdL w2 lv cs) := hL
  have hk2 : w.heap.size + 1 ≤ w2.heap.size := by have := K2.out.lt; omega
  clear b2 hL B1 K1
  go_wp2_with (fail)
  refine (route_c _ cs F U w2 HL.out HOK.out (by rw [HN.out]; exact hF) (by rw [HN.out]; exact hU)).mono ?_
  rintro e w3 ⟨hv, rfl, ho, b3⟩
  have B3 : Hid (Below w.heap.size w w3) := belowCall B2.out b3 B2.out.size
  have K3 : Hid (Blk w3 w.heap.size (O3 0 0 (.slice none 0 0)) 29) := K2.out.below b3 K2.out.lt
  have O3' : Hid (Ow .i64 3 (w.heap.size + 1) w3 hv (rgF cs F U).2.2) := ho.mono hk2
  obtain ⟨ah, ch, rfl, -⟩ := own_form ho
  obtain ⟨rc, rest, hrr⟩ : ∃ rc rest, rgF cs F U = (rc, rest) := ⟨_, _, rfl⟩
  obtain ⟨ra, hops⟩ := rest
  rw [hrr] at O3' HRG ⊢
  dsimp only at O3' ⊢
  obtain ⟨N, hN⟩ : ∃ N, hops.length = N := ⟨_, rfl⟩
  rw [hN] at O3' ⊢
  clear b3 ho hrr hN
  have r0 := K3.out.cell 0
  have r1 := K3.out.cell 1
  have r2 := K3.out.cell 2
  have rz0 := K3.out.frozen 0
  have rz1 := K3.out.frozen 1
  have rz2 := K3.out.frozen 2
  simp at r0 r1 r2
  go_wp2
  exact FIN.out _ rc ra _ hops _ K3.out rfl O3'.out B3.out HRG.out _ rfl rfl
end Go.Proofs.Ytfaflnhembceoaa
