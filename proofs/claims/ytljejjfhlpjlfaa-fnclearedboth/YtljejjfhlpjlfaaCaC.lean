/- The program's carryAll, and the model's; no condition. -/
import Derived.Test.YtljejjfhlpjlfaaCar
namespace Go.Proofs.Ytljejjfhlpjlfaa
open Go.RowKit Go.ChangeShapes Go.WideShapes Go.ChangeAt
set_option linter.unusedVariables false
set_option linter.unusedSimpArgs false
set_option maxRecDepth 8000

theorem Rt.uniq {W : World} {v : Value} {a b : Tri} (h : Rt W v a) (h' : Rt W v b) : a = b := by
  obtain ⟨p, cap, e, -, -, h3⟩ := h
  obtain ⟨p', cap', e', -, -, h3'⟩ := h'
  rw [e] at e'
  have hl : a.length = b.length := by injection e'
  rcases h3 with h3 | ⟨g, o, hp, h4⟩
  · subst h3; exact (List.eq_nil_of_length_eq_zero hl.symm).symm
  rcases h3' with h3' | ⟨g', o', hp', h4'⟩
  · subst h3'; exact List.eq_nil_of_length_eq_zero hl
  have hpp : p = p' := by injection e'
  rw [hp, hp'] at hpp
  cases hpp
  apply List.ext_getElem hl
  intro i h1 h2
  have x := h4 i h1
  have y := h4' i h2
  have e1 := x.1.symm.trans y.1
  have e2 := x.2.1.symm.trans y.2.1
  have e3 := x.2.2.symm.trans y.2.2
  simp at e1 e2 e3
  exact Prod.ext e1 (Prod.ext e2 e3)
theorem mu_ex (g : Nat) : ∃ μ : World → Nat, ∀ W v ls, W.cell? ⟨g, 4, none⟩ = some v → Rt W v ls → μ W = wtL ls := by
  classical
  refine ⟨fun W => if h : ∃ ls v, W.cell? ⟨g, 4, none⟩ = some v ∧ Rt W v ls then wtL (Classical.choose h) else 0, ?_⟩
  intro W v ls h1 h2
  have h : ∃ ls v, W.cell? ⟨g, 4, none⟩ = some v ∧ Rt W v ls := ⟨ls, v, h1, h2⟩
  simp only [dif_pos h]
  obtain ⟨v', h3, h4⟩ := Classical.choose_spec h
  rw [h1] at h3
  cases h3
  rw [Rt.uniq h4 h2]
theorem happen0 {s c s' c' : Int} {x : Int × Int × Int} {ls : Tri} (h : DOk s c s' c' (x :: ls)) : happenP (s, c, s', c', x :: ls) 5 0 = (wayM (s, c, s', c', x :: ls) 5 0, true) := by
  rw [ev_same _ _ _ _ _ _ _ h]
  have hD : doM (s, c, s', c', x :: ls) 5 0 = (wayM (s, c, s', c', x :: ls) 5 0, true) := by
    simp only [doM]
    have : (0 : Int) ≤ 0 ∧ (0 : Int) ≤ ((x :: ls : Tri).length : Int) - 1 := by simp
    rw [if_pos this]
    simp
  have hl := (dok_way0 h).1.2.2.2.2.2.2.1
  simp only [doE, hD]
  simp [hl]


set_option maxHeartbeats 6400000 in
theorem carM_c (base : Nat) (s c s' c' : Int) (v : Value) (ls : Tri) (w : World) (h : Ot 66 base w v ls) (hbs : base ≤ w.heap.size) (hd : DOk s c s' c' ls) :
    Calls Try.prog 54 #[.agg (D5 s c s' c' v)] w fun e w' => ∃ d, Car (s, c, s', c', ls) d ∧ DOt d ∧ DuS base w v d e w' := by
  obtain ⟨W0, hW0⟩ : ∃ W0, (w.alloc (Obj.cells (D5 s c s' c' v) 31)).alloc (Obj.cells (D5 0 0 0 0 (.slice none 0 0)) 31) = W0 := ⟨_, rfl⟩
  have HB : Hid (Bx w base v W0 w.heap.size (w.heap.size + 1) s c s' c' v ls) := Bx.start h (by rw [← hW0]; exact ((Below.refl _ _).alloc (Nat.le_refl _) _).alloc (by simp) _) (by rw [← hW0]; exact (Blk.new _ _ _).alloc _) (by rw [← hW0]; exact Blk.newAt _ (w.heap.size + 1) _ 31 (by simp)) (Nat.le_refl _) (by omega) (by omega)
  have HD : Hid (DOk s c s' c' ls) := hd
  have HBS : Hid (base ≤ w.heap.size) := hbs
  obtain ⟨μ, hμ⟩ := mu_ex w.heap.size
  have HM : Hid (∀ W v ls, W.cell? ⟨w.heap.size, 4, none⟩ = some v → Rt W v ls → μ W = wtL ls) := hμ
  clear h hd hbs hμ
  go_enter Try.func54, Try.ntmps54
  go_wp2
  clear hW0
  go_loopw [] (fun wr => Hid (∃ s1 c1 s2 c2 v1 l1 m, Bx w base v wr w.heap.size (w.heap.size + 1) s1 c1 s2 c2 v1 l1 ∧ DOk s1 c1 s2 c2 l1 ∧ itN m (s, c, s', c', ls) = (s1, c1, s2, c2, l1) ∧ ∀ j, j < m → (itN j (s, c, s', c', ls)).2.2.2.2 ≠ [])) (fun W => μ W)
  case atStart => exact ⟨s, c, s', c', v, ls, 0, HB.out, HD.out, rfl, fun j h => by omega⟩
  case round =>
    clear HB
    obtain ⟨s1, c1, s2, c2, v1, l1, m, hB, hdk, hit, hne⟩ := hrel
    have B1 : Hid (Bx w base v wr w.heap.size (w.heap.size + 1) s1 c1 s2 c2 v1 l1) := hB
    have HIT : Hid (itN m (s, c, s', c', ls) = (s1, c1, s2, c2, l1) ∧ ∀ j, j < m → (itN j (s, c, s', c', ls)).2.2.2.2 ≠ []) := ⟨hit, hne⟩
    have HDK : Hid (DOk s1 c1 s2 c2 l1) := hdk
    obtain ⟨a, cap, hv1, -⟩ := own_form hB.own
    clear hB hdk hit hne
    cases l1 with
    | nil =>
      simp at hv1
      subst hv1
      have k0 := B1.out.box.cell 0
      have kf0 := B1.out.box.frozen 0
      have k1 := B1.out.box.cell 1
      have kf1 := B1.out.box.frozen 1
      have k2 := B1.out.box.cell 2
      have kf2 := B1.out.box.frozen 2
      have k3 := B1.out.box.cell 3
      have kf3 := B1.out.box.frozen 3
      have k4 := B1.out.box.cell 4
      have kf4 := B1.out.box.frozen 4
      have r0 := B1.out.res.cell 0
      have rf0 := B1.out.res.frozen 0
      have r1 := B1.out.res.cell 1
      have rf1 := B1.out.res.frozen 1
      have r2 := B1.out.res.cell 2
      have rf2 := B1.out.res.frozen 2
      have r3 := B1.out.res.cell 3
      have rf3 := B1.out.res.frozen 3
      have r4 := B1.out.res.cell 4
      have rf4 := B1.out.res.frozen 4
      simp at k0 k1 k2 k3 k4 r0 r1 r2 r3 r4
      have kl := B1.out.box.lt
      have rl := B1.out.res.lt
      have kn := B1.out.ne
      skip
      have HF : Hid _ := B1.out.ret
      clear B1
      go_wp2
      exact bodyPost_ret (v := .agg (D5 s1 c1 s2 c2 (.slice a 0 cap))) (results_cell_row rfl _ _ _ 31 _ (0, 0) _ rfl (HF.out _ rfl).1 Try.underlying31 rfl size31) rfl ⟨_, ⟨rfl, m, HIT.out.1, HIT.out.2⟩, HDK.out, (HF.out _ rfl).2.2⟩
    | cons x l1 =>
      simp at hv1
      subst hv1
      obtain ⟨⟨t1, t2, t3, t4, tl⟩, hT⟩ : ∃ T, wayM (s1, c1, s2, c2, x :: l1) 5 0 = T := ⟨_, rfl⟩
      obtain ⟨hok, hlt⟩ := dok_way0 HDK.out
      rw [hT] at hok hlt
      have HOK : Hid (DOk t1 t2 t3 t4 tl) := hok
      have HLT : Hid (wtL tl < wtL (x :: l1)) := hlt
      have HIT2 : Hid (itN (m + 1) (s, c, s', c', ls) = (t1, t2, t3, t4, tl) ∧ ∀ j, j < m + 1 → (itN j (s, c, s', c', ls)).2.2.2.2 ≠ []) := ⟨by simp only [itN]; rw [HIT.out.1, hT], fun j hj => by
        by_cases hjm : j < m
        · exact HIT.out.2 j hjm
        · obtain rfl : j = m := by omega
          rw [HIT.out.1]; simp⟩
      have HBW : Hid (base ≤ wr.heap.size) := by have := B1.out.gr.size; have := HBS.out; show base ≤ _; omega
      have hlen := HDK.out.2.2.2.2.2.2.1
      have hx := dok_mem HDK.out x (by simp)
      have hl40 : l1.length ≤ 39 := by simp at hlen; omega
      have HMU : Hid (μ wr = wtL (x :: l1)) := HM.out wr _ _ (B1.out.box.cell 4) B1.out.own.rd
      have HC : Hid (Calls Try.prog 63 #[.agg (D5 s1 c1 s2 c2 (.slice a (l1.length + 1) cap)), .int .i64 5, .int .i64 0] wr (DuS base wr (.slice a (l1.length + 1) cap) (t1, t2, t3, t4, tl))) := by
        have := wayM_c base s1 c1 s2 c2 (.slice a (l1.length + 1) cap) (x :: l1) 5 0 wr B1.out.own HBW.out (by simp; omega) (by simp) ⟨hx.1, hx.2.1⟩ (.inl rfl)
        rw [hT] at this; exact this
      clear hT hok hlt hx HIT
      have k0 := B1.out.box.cell 0
      have kf0 := B1.out.box.frozen 0
      have k1 := B1.out.box.cell 1
      have kf1 := B1.out.box.frozen 1
      have k2 := B1.out.box.cell 2
      have kf2 := B1.out.box.frozen 2
      have k3 := B1.out.box.cell 3
      have kf3 := B1.out.box.frozen 3
      have k4 := B1.out.box.cell 4
      have kf4 := B1.out.box.frozen 4
      have r0 := B1.out.res.cell 0
      have rf0 := B1.out.res.frozen 0
      have r1 := B1.out.res.cell 1
      have rf1 := B1.out.res.frozen 1
      have r2 := B1.out.res.cell 2
      have rf2 := B1.out.res.frozen 2
      have r3 := B1.out.res.cell 3
      have rf3 := B1.out.res.frozen 3
      have r4 := B1.out.res.cell 4
      have rf4 := B1.out.res.frozen 4
      simp at k0 k1 k2 k3 k4 r0 r1 r2 r3 r4
      have kl := B1.out.box.lt
      have rl := B1.out.res.lt
      have kn := B1.out.ne
      skip
      have hpos : (0 : Int) < (l1.length : Int) + 1 := by omega
      go_wp2_with (fail)
      refine HC.out.mono ?_
      rintro e Wd ⟨v', rfl, ho, hg, hx⟩
      obtain ⟨q1, -⟩ := B1.out.after ho hg hx
      have hB3 := B1.out.put ho hg hx t1 t2 t3 t4
      obtain ⟨a', cap', hv', -⟩ := own_form ho
      simp only at hv'
      subst hv'
      have B3 : Hid (Bx w base v (st5 Wd w.heap.size t1 t2 t3 t4 (.slice a' tl.length cap')) w.heap.size (w.heap.size + 1) t1 t2 t3 t4 (.slice a' tl.length cap') tl) := hB3
      have mm0 := q1.cell 0
      have mmf0 := q1.frozen 0
      have mm1 := q1.cell 1
      have mmf1 := q1.frozen 1
      have mm2 := q1.cell 2
      have mmf2 := q1.frozen 2
      have mm3 := q1.cell 3
      have mmf3 := q1.frozen 3
      have mm4 := q1.cell 4
      have mmf4 := q1.frozen 4
      simp at mm0 mm1 mm2 mm3 mm4
      clear hB3 q1 ho hg hx B1 HC k0 k1 k2 k3 k4 kf0 kf1 kf2 kf3 kf4 r0 r1 r2 r3 r4 rf0 rf1 rf2 rf3 rf4 kl rl kn
      have HMU2 : Hid (μ (st5 Wd w.heap.size t1 t2 t3 t4 (.slice a' tl.length cap')) = wtL tl) := HM.out _ _ _ (B3.out.box.cell 4) B3.out.own.rd
      obtain ⟨W3, hW3⟩ : ∃ W, st5 Wd w.heap.size t1 t2 t3 t4 (.slice a' tl.length cap') = W := ⟨_, rfl⟩
      rw [hW3] at B3 HMU2
      unfold st5 at hW3
      go_wp2
      go_roundw
      case rel => exact ⟨t1, t2, t3, t4, _, tl, m + 1, B3.out, HOK.out, HIT2.out.1, HIT2.out.2⟩
      case measure => have h1 := HMU.out; have h2 := HMU2.out; have h3 := HLT.out; omega


set_option maxHeartbeats 6400000 in
theorem carI_c (base : Nat) (s c s' c' : Int) (v : Value) (ls : Tri) (w : World) (h : Ot 66 base w v ls) (hbs : base ≤ w.heap.size) (hd : DOk s c s' c' ls) :
    Calls Try.prog 42 #[.agg (D5 s c s' c' v)] w fun e w' => ∃ d, Car (s, c, s', c', ls) d ∧ DOt d ∧ DuS base w v d e w' := by
  obtain ⟨W0, hW0⟩ : ∃ W0, (w.alloc (Obj.cells (D5 s c s' c' v) 31)).alloc (Obj.cells (D5 0 0 0 0 (.slice none 0 0)) 31) = W0 := ⟨_, rfl⟩
  have HB : Hid (Bx w base v W0 w.heap.size (w.heap.size + 1) s c s' c' v ls) := Bx.start h (by rw [← hW0]; exact ((Below.refl _ _).alloc (Nat.le_refl _) _).alloc (by simp) _) (by rw [← hW0]; exact (Blk.new _ _ _).alloc _) (by rw [← hW0]; exact Blk.newAt _ (w.heap.size + 1) _ 31 (by simp)) (Nat.le_refl _) (by omega) (by omega)
  have HD : Hid (DOk s c s' c' ls) := hd
  have HBS : Hid (base ≤ w.heap.size) := hbs
  obtain ⟨μ, hμ⟩ := mu_ex w.heap.size
  have HM : Hid (∀ W v ls, W.cell? ⟨w.heap.size, 4, none⟩ = some v → Rt W v ls → μ W = wtL ls) := hμ
  clear h hd hbs hμ
  go_enter Try.func42, Try.ntmps42
  go_wp2
  clear hW0
  go_loopw [] (fun wr => Hid (∃ s1 c1 s2 c2 v1 l1 m, Bx w base v wr w.heap.size (w.heap.size + 1) s1 c1 s2 c2 v1 l1 ∧ DOk s1 c1 s2 c2 l1 ∧ itN m (s, c, s', c', ls) = (s1, c1, s2, c2, l1) ∧ ∀ j, j < m → (itN j (s, c, s', c', ls)).2.2.2.2 ≠ [])) (fun W => μ W)
  case atStart => exact ⟨s, c, s', c', v, ls, 0, HB.out, HD.out, rfl, fun j h => by omega⟩
  case round =>
    clear HB
    obtain ⟨s1, c1, s2, c2, v1, l1, m, hB, hdk, hit, hne⟩ := hrel
    have B1 : Hid (Bx w base v wr w.heap.size (w.heap.size + 1) s1 c1 s2 c2 v1 l1) := hB
    have HIT : Hid (itN m (s, c, s', c', ls) = (s1, c1, s2, c2, l1) ∧ ∀ j, j < m → (itN j (s, c, s', c', ls)).2.2.2.2 ≠ []) := ⟨hit, hne⟩
    have HDK : Hid (DOk s1 c1 s2 c2 l1) := hdk
    obtain ⟨a, cap, hv1, -⟩ := own_form hB.own
    clear hB hdk hit hne
    cases l1 with
    | nil =>
      simp at hv1
      subst hv1
      have k0 := B1.out.box.cell 0
      have kf0 := B1.out.box.frozen 0
      have k1 := B1.out.box.cell 1
      have kf1 := B1.out.box.frozen 1
      have k2 := B1.out.box.cell 2
      have kf2 := B1.out.box.frozen 2
      have k3 := B1.out.box.cell 3
      have kf3 := B1.out.box.frozen 3
      have k4 := B1.out.box.cell 4
      have kf4 := B1.out.box.frozen 4
      have r0 := B1.out.res.cell 0
      have rf0 := B1.out.res.frozen 0
      have r1 := B1.out.res.cell 1
      have rf1 := B1.out.res.frozen 1
      have r2 := B1.out.res.cell 2
      have rf2 := B1.out.res.frozen 2
      have r3 := B1.out.res.cell 3
      have rf3 := B1.out.res.frozen 3
      have r4 := B1.out.res.cell 4
      have rf4 := B1.out.res.frozen 4
      simp at k0 k1 k2 k3 k4 r0 r1 r2 r3 r4
      have kl := B1.out.box.lt
      have rl := B1.out.res.lt
      have kn := B1.out.ne
      skip
      have HF : Hid _ := B1.out.ret
      clear B1
      go_wp2
      exact bodyPost_ret (v := .agg (D5 s1 c1 s2 c2 (.slice a 0 cap))) (results_cell_row rfl _ _ _ 31 _ (0, 0) _ rfl (HF.out _ rfl).1 Try.underlying31 rfl size31) rfl ⟨_, ⟨rfl, m, HIT.out.1, HIT.out.2⟩, HDK.out, (HF.out _ rfl).2.2⟩
    | cons x l1 =>
      simp at hv1
      subst hv1
      obtain ⟨⟨t1, t2, t3, t4, tl⟩, hT⟩ : ∃ T, wayM (s1, c1, s2, c2, x :: l1) 5 0 = T := ⟨_, rfl⟩
      obtain ⟨hok, hlt⟩ := dok_way0 HDK.out
      rw [hT] at hok hlt
      have HOK : Hid (DOk t1 t2 t3 t4 tl) := hok
      have HLT : Hid (wtL tl < wtL (x :: l1)) := hlt
      have HIT2 : Hid (itN (m + 1) (s, c, s', c', ls) = (t1, t2, t3, t4, tl) ∧ ∀ j, j < m + 1 → (itN j (s, c, s', c', ls)).2.2.2.2 ≠ []) := ⟨by simp only [itN]; rw [HIT.out.1, hT], fun j hj => by
        by_cases hjm : j < m
        · exact HIT.out.2 j hjm
        · obtain rfl : j = m := by omega
          rw [HIT.out.1]; simp⟩
      have HBW : Hid (base ≤ wr.heap.size) := by have := B1.out.gr.size; have := HBS.out; show base ≤ _; omega
      have hlen := HDK.out.2.2.2.2.2.2.1
      have hx := dok_mem HDK.out x (by simp)
      have hl40 : l1.length ≤ 39 := by simp at hlen; omega
      have HMU : Hid (μ wr = wtL (x :: l1)) := HM.out wr _ _ (B1.out.box.cell 4) B1.out.own.rd
      have HC : Hid (Calls Try.prog 38 #[.agg (D5 s1 c1 s2 c2 (.slice a (l1.length + 1) cap)), .agg (H2 5 0)] wr (DuR base wr (.slice a (l1.length + 1) cap) (t1, t2, t3, t4, tl) true)) := by
        have := happen_c base s1 c1 s2 c2 (.slice a (l1.length + 1) cap) (x :: l1) 5 0 wr B1.out.own HBW.out HDK.out
        rw [happen0 HDK.out, hT] at this; exact this
      clear hT hok hlt hx HIT
      have k0 := B1.out.box.cell 0
      have kf0 := B1.out.box.frozen 0
      have k1 := B1.out.box.cell 1
      have kf1 := B1.out.box.frozen 1
      have k2 := B1.out.box.cell 2
      have kf2 := B1.out.box.frozen 2
      have k3 := B1.out.box.cell 3
      have kf3 := B1.out.box.frozen 3
      have k4 := B1.out.box.cell 4
      have kf4 := B1.out.box.frozen 4
      have r0 := B1.out.res.cell 0
      have rf0 := B1.out.res.frozen 0
      have r1 := B1.out.res.cell 1
      have rf1 := B1.out.res.frozen 1
      have r2 := B1.out.res.cell 2
      have rf2 := B1.out.res.frozen 2
      have r3 := B1.out.res.cell 3
      have rf3 := B1.out.res.frozen 3
      have r4 := B1.out.res.cell 4
      have rf4 := B1.out.res.frozen 4
      simp at k0 k1 k2 k3 k4 r0 r1 r2 r3 r4
      have kl := B1.out.box.lt
      have rl := B1.out.res.lt
      have kn := B1.out.ne
      skip
      have hpos : (0 : Int) < (l1.length : Int) + 1 := by omega
      go_wp2_with (fail)
      refine HC.out.mono ?_
      rintro e Wd ⟨v', rfl, ho, hg, hx⟩
      obtain ⟨q1, -⟩ := B1.out.after ho hg hx
      have hB3 := B1.out.put ho hg hx t1 t2 t3 t4
      obtain ⟨a', cap', hv', -⟩ := own_form ho
      simp only at hv'
      subst hv'
      have B3 : Hid (Bx w base v (st5 Wd w.heap.size t1 t2 t3 t4 (.slice a' tl.length cap')) w.heap.size (w.heap.size + 1) t1 t2 t3 t4 (.slice a' tl.length cap') tl) := hB3
      have mm0 := q1.cell 0
      have mmf0 := q1.frozen 0
      have mm1 := q1.cell 1
      have mmf1 := q1.frozen 1
      have mm2 := q1.cell 2
      have mmf2 := q1.frozen 2
      have mm3 := q1.cell 3
      have mmf3 := q1.frozen 3
      have mm4 := q1.cell 4
      have mmf4 := q1.frozen 4
      simp at mm0 mm1 mm2 mm3 mm4
      clear hB3 q1 ho hg hx B1 HC k0 k1 k2 k3 k4 kf0 kf1 kf2 kf3 kf4 r0 r1 r2 r3 r4 rf0 rf1 rf2 rf3 rf4 kl rl kn
      have HMU2 : Hid (μ (st5 Wd w.heap.size t1 t2 t3 t4 (.slice a' tl.length cap')) = wtL tl) := HM.out _ _ _ (B3.out.box.cell 4) B3.out.own.rd
      obtain ⟨W3, hW3⟩ : ∃ W, st5 Wd w.heap.size t1 t2 t3 t4 (.slice a' tl.length cap') = W := ⟨_, rfl⟩
      rw [hW3] at B3 HMU2
      unfold st5 at hW3
      go_wp2
      go_roundw
      case rel => exact ⟨t1, t2, t3, t4, _, tl, m + 1, B3.out, HOK.out, HIT2.out.1, HIT2.out.2⟩
      case measure => have h1 := HMU.out; have h2 := HMU2.out; have h3 := HLT.out; omega

end Go.Proofs.Ytljejjfhlpjlfaa
