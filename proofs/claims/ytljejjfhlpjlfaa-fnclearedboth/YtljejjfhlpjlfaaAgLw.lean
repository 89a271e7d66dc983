/- FnAgreed; no condition. -/
import Derived.Test.YtljejjfhlpjlfaaDDay
namespace Go.Proofs.Ytljejjfhlpjlfaa
open Go.RowKit Go.ChangeShapes Go.WideShapes Go.ChangeAt
set_option linter.unusedVariables false
set_option linter.unusedSimpArgs false
set_option maxRecDepth 8000

def Cut3 (A : Nat → Option Addr → Nat → Act) (F : Nat → Option Addr → Nat → World → Prop) (ex : Exit) (a : Act) (w : World) : Prop :=
  ex = .normal ∧ ∃ g a3 c3, a = A g a3 c3 ∧ F g a3 c3 w
theorem reg_cut3 {P : Program} {Q : Exit → Act → World → Prop} {c : Code} {a : Act} {w : World} {A : Nat → Option Addr → Nat → Act} {F : Nat → Option Addr → Nat → World → Prop}
    (h : c.wp P (Cut3 A F) a w) (hk : ∀ g a3 c3 w, F g a3 c3 w → Q .normal (A g a3 c3) w) : c.wp P Q a w := by
  intro b k cs
  obtain ⟨e, a', w', ⟨rfl, g, a3, c3, rfl, hF⟩, harr⟩ := h b k cs
  exact ⟨.normal, _, w', hk _ _ _ _ hF, harr⟩

theorem doE_zero : doE (0, 0, 0, 0, []) 1 0 = ((1, 1, 0, 0, [(1, 1, 1)]), true) := by simp [doE, doM]
theorem big_c (v : Value) (zs : List Int) (w : World) (h : Rd .u8 w v zs) : Calls Try.prog 10 #[v] w fun e w' => e = .returned (.bool (decide ((1048576 : Int) < (zs.length : Int)))) ∧ w' = w := by
  obtain ⟨a, cap, rfl, -, h2, -⟩ := h
  unfold maxLen at h2
  go_enter Try.func10, Try.ntmps10
  go_wp2
  go_ret
  exact ⟨rfl, rfl⟩

set_option maxHeartbeats 12800000 in
theorem agreedLaw (v : Value) (zs : List Int) (w : World) (h : Rd .u8 w v zs) (hwz : ∀ z ∈ zs, (Lit.int .u8 z).wf = true) :
   Calls Try.prog 3 #[v] w fun e w' => e = .returned (.bool true) ∧ Below w.heap.size w w' := by
  have hz : ∀ z ∈ zs, 0 ≤ z ∧ z ≤ 255 := fun z hm => bounds_u8 (hwz z hm)
  clear hwz
  have HR : Hid (Rd .u8 w v zs) := h
  obtain ⟨a, cap, rfl, h1, h2, h3⟩ := h
  clear h3
  unfold maxLen at h2
  by_cases hbig : 1048576 < zs.length
  · have hb : decide ((1048576 : Int) < (zs.length : Int)) = true := by simp; omega
    clear hz HR
    go_enter Try.func3, Try.ntmps3
    go_wp2
    go_ret
    exact ⟨rfl, Below.refl _ _⟩
  have hb : decide ((1048576 : Int) < (zs.length : Int)) = false := by simp; omega
  have hlen : zs.length ≤ 1048576 := by omega
  have HZ : Hid (∀ z ∈ zs, 0 ≤ z ∧ z ≤ 255) := hz
  clear hz
  go_enter Try.func3, Try.ntmps3
  go_wp2_with (fail)
  refine (big_c _ zs _ HR.out).mono ?_
  rintro e wq ⟨rfl, hwq⟩
  rw [hwq, hb]
  clear hwq wq
  go_wp2_with (fail)
  refine (day_c _ zs _ HR.out HZ.out hlen).mono ?_
  rintro e w1 ⟨v1, es, rfl, hel, o1, b1⟩
  clear HR HZ hlen hb hbig h1 h2
  obtain ⟨ea, ecap, hv1⟩ := own_form2 o1
  obtain ⟨m, hm⟩ : ∃ m, es.length = m := ⟨_, rfl⟩
  have HM : Hid (es.length = m) := hm
  have hmb : m ≤ 120 := by rw [← hm]; exact hel
  rw [hm] at hv1
  subst hv1
  obtain ⟨g, hg⟩ : ∃ g, w1.heap.size = g := ⟨_, rfl⟩
  have A0 : Hid (Ai w (w1.alloc (Obj.cells (D5 0 0 0 0 (.slice none 0 0)) 31)) g 0 0 0 0 (.slice none 0 0) [] (.slice ea m ecap) es) := by
    have ha : Below w1.heap.size w1 (w1.alloc (Obj.cells (D5 0 0 0 0 (.slice none 0 0)) 31)) := (Below.refl _ _).alloc (Nat.le_refl _) _
    exact ⟨belowCall b1 ha b1.size, hg ▸ b1.size, hg ▸ Blk.new _ _ _, Ot.nil _ _, o1.rd.below ha, fun k e => by rw [← hg]; exact (World.ownsRow.lt o1 k e).2⟩
  have HG : Hid (w1.heap.size = g) := hg
  obtain ⟨W0, hW0⟩ : ∃ W, w1.alloc (Obj.cells (D5 0 0 0 0 (.slice none 0 0)) 31) = W := ⟨_, rfl⟩
  have HW0 : Hid (w1.alloc (Obj.cells (D5 0 0 0 0 (.slice none 0 0)) 31) = W0) := hW0
  rw [hW0] at A0
  clear o1 b1 hel hm hg hW0
  go_wp2
  rw [HG.out, HW0.out]
  clear HG HW0
  go_loopw [5] (fun i wr => ∃ j : Nat, j ≤ m ∧ i = .int .i64 j ∧ Hid (∃ s1 c1 s2 c2 V l1, Ai w wr g s1 c1 s2 c2 V l1 (.slice ea m ecap) es ∧ DOt (s1, c1, s2, c2, l1) ∧ HwI (s1, c1, s2, c2, l1))) (fun i _ => m - (intOf i).toNat)
  case atStart => exact ⟨0, Nat.zero_le _, rfl, 0, 0, 0, 0, _, [], A0.out, hw_zero.1, hw_zero.2⟩
  case round =>
    obtain ⟨j, hj, rfl, hrest⟩ := hrel
    obtain ⟨s1, c1, s2, c2, V, l1, hA, hdo, hhw⟩ := hrest.out
    clear hrest A0
    have HDO : Hid (DOt (s1, c1, s2, c2, l1)) := hdo
    have HHW : Hid (HwI (s1, c1, s2, c2, l1)) := hhw
    have HLN : Hid (l1.length ≤ 1048576) := by have h0 : DOk s1 c1 s2 c2 l1 := hdo; have := h0.2.2.2.2.2.2.1; show _ ≤ _; omega
    obtain ⟨a1, cap1, hv1, -⟩ := own_form hA.own
    obtain ⟨n1, hn1⟩ : ∃ n, l1.length = n := ⟨_, rfl⟩
    rw [hn1] at hv1
    subst hv1
    have HA : Hid (Ai w wr g s1 c1 s2 c2 (.slice a1 n1 cap1) l1 (.slice ea m ecap) es) := hA
    have HN1 : Hid (l1.length = n1) := hn1
    by_cases hlt : j < m
    case pos =>
      have hjI : (j : Int) < (m : Int) := by omega
      have hje : j < es.length := by have := HM.out; omega
      obtain ⟨ea', ecap', hev, -, hec, hea⟩ := hA.ev
      simp only [Value.slice.injEq] at hev
      obtain ⟨h5, -, h6⟩ := hev
      subst h5 h6
      unfold maxLen at hec
      rcases hea with hea | ⟨b, off, rfl, h4⟩
      · subst hea; simp at hje
      obtain ⟨x, y, hxy⟩ : ∃ x y, es[j] = (x, y) := ⟨_, _, rfl⟩
      have hc0 : wr.cell? ⟨b, off + j * 2, none⟩ = some (.int .i64 x) := by have := (h4 j hje).1; rw [hxy] at this; exact this
      have hc1 : wr.cell? ⟨b, off + j * 2 + 1, none⟩ = some (.int .i64 y) := by have := (h4 j hje).2; rw [hxy] at this; exact this
      obtain ⟨⟨⟨t1, t2, t3, t4, tl⟩, ok⟩, hT⟩ : ∃ r, doE (s1, c1, s2, c2, l1) x y = r := ⟨_, rfl⟩
      have HT : Hid (doE (s1, c1, s2, c2, l1) x y = ((t1, t2, t3, t4, tl), ok)) := hT
      have hd2 := dok_doE hdo x y
      have hw2 := hw_doE hdo hhw x y
      rw [hT] at hd2 hw2
      have HD2 : Hid (DOt (t1, t2, t3, t4, tl)) := hd2
      have HW2 : Hid (HwI (t1, t2, t3, t4, tl)) := hw2
      obtain ⟨Ln, hLn⟩ : ∃ n, tl.length = n := ⟨_, rfl⟩
      have HLT : Hid (tl.length = Ln) := hLn
      have hLb : Ln ≤ 40 := by have h0 : DOk t1 t2 t3 t4 tl := hd2; rw [← hLn]; exact h0.2.2.2.2.2.2.1
      have HC0 : Hid (wr.cell? ⟨b, off + j * 2, none⟩ = some (.int .i64 x)) := hc0
      have HC1 : Hid (wr.cell? ⟨b, off + j * 2 + 1, none⟩ = some (.int .i64 y)) := hc1
      clear hA hdo hhw hn1 h4 hxy hT hd2 hw2 hLn hje
      obtain ⟨S, hS⟩ : ∃ S : World → Prop, ∀ W, S W ↔ Below wr.heap.size wr W := ⟨_, fun _ => Iff.rfl⟩
      have HSI : Hid (∀ W, S W ↔ Below wr.heap.size wr W) := hS
      have HSD : Hid (S wr.drew) := (hS _).2 (Below.refl _ _).drew
      have ne1 : Nonempty (At S) := ⟨⟨_, HSD.out⟩⟩
      have y0 : ∀ W : At S, W.wd.cell? ⟨g, 0, none⟩ = some (.int .i64 s1) := fun W => by rw [(HA.out.below ((hS _).1 W.ok)).box.cell 0]; rfl
      have y1 : ∀ W : At S, W.wd.cell? ⟨g, 1, none⟩ = some (.int .i64 c1) := fun W => by rw [(HA.out.below ((hS _).1 W.ok)).box.cell 1]; rfl
      have y2 : ∀ W : At S, W.wd.cell? ⟨g, 2, none⟩ = some (.int .i64 s2) := fun W => by rw [(HA.out.below ((hS _).1 W.ok)).box.cell 2]; rfl
      have y3 : ∀ W : At S, W.wd.cell? ⟨g, 3, none⟩ = some (.int .i64 c2) := fun W => by rw [(HA.out.below ((hS _).1 W.ok)).box.cell 3]; rfl
      have y4 : ∀ W : At S, W.wd.cell? ⟨g, 4, none⟩ = some (.slice a1 n1 cap1) := fun W => by rw [(HA.out.below ((hS _).1 W.ok)).box.cell 4]; rfl
      have x0 : ∀ W : At S, W.wd.cell? ⟨b, off + j * 2, none⟩ = some (.int .i64 x) := fun W => (((hS _).1 W.ok).cell (block_lt_of_cell hc0)).trans hc0
      have x1 : ∀ W : At S, W.wd.cell? ⟨b, off + j * 2 + 1, none⟩ = some (.int .i64 y) := fun W => (((hS _).1 W.ok).cell (block_lt_of_cell hc1)).trans hc1
      clear hS
      go_wp2
      apply reg_cut3 (F := fun g6 a3 c3 W => Hid (Below wr.heap.size wr W) ∧ Hid (Aj W g6 t1 t2 t3 t4 (.slice a3 Ln c3) tl ∧ Ot 66 (g + 1) W (.slice a3 Ln c3) tl))
      · refine region_anyS S (by kernel_rfl) ?_
        refine anyS_quiet [true, true, true, true, true, false, false, false, false, false, false, false] 7 rfl (by kernel_rfl) (fun _ _ _ _ _ h => by cases h.1) HSD.out ?_
        simp only [selT]
        repeat (go_big_quiet_step (fail))
        refine wpQuiet_nil ?_
        obtain ⟨u0, hu0⟩ : ∃ W, wr.drew = W := ⟨_, rfl⟩
        have HB0 : Hid (Below wr.heap.size wr u0) := hu0 ▸ (Below.refl _ _).drew
        rw [hu0]
        clear hu0
        refine anyS_two 5 9 (by kernel_rfl) rfl rfl ?_ ?_
        · go_wp2_with (fail)
          refine (evI_t s1 c1 s2 c2 (.slice a1 n1 cap1) l1 x y u0 (HA.out.below HB0.out).own.rd HLN.out (t1, t2, t3, t4, tl) ok (fun _ => HT.out.symm) (fun hn => absurd HDO.out hn)).mono ?_
          rintro e u1 ⟨v3, rfl, o3, g3, -⟩
          obtain ⟨a3, c3, hv3, -⟩ := own_form o3
          simp only at hv3 o3
          rw [HLT.out] at hv3
          subst hv3
          have b2 : Below u0.heap.size u0 u1 := ⟨g3.os, g3.tape, g3.output, g3.size, fun j hj => g3.block j hj (by simp [Value.ownBlock])⟩
          have HB1 : Hid (Below wr.heap.size wr u1) := HB0.out.trans (b2.mono HB0.out.size)
          have HO3 : Hid (Ot 66 u0.heap.size u1 (.slice a3 Ln c3) tl) := o3
          have HG1 : Hid (g + 1 ≤ u0.heap.size) := Nat.lt_of_lt_of_le HA.out.box.lt HB0.out.size
          clear o3 g3 b2
          go_wp2
          refine ⟨((HSI.out _).2 HB1.out), ?_⟩
          refine anyS_quiet [false, false, false, false, false, false, true, true, true, false, false, false] 3 rfl (by kernel_rfl) (fun _ _ _ _ _ h => by cases h.1) ((HSI.out _).2 HB1.out) ?_
          simp only [selT]
          repeat (go_big_quiet_step (fail))
          refine wpQuiet_nil ?_
          have HBA : Hid (Below wr.heap.size wr (u1.alloc (Obj.cells (D5 t1 t2 t3 t4 (.slice a3 Ln c3)) 31))) := HB1.out.trans (((Below.refl _ _).alloc (Nat.le_refl _) _).mono HB1.out.size)
          have HJ : Hid (Aj (u1.alloc (Obj.cells (D5 t1 t2 t3 t4 (.slice a3 Ln c3)) 31)) u1.heap.size t1 t2 t3 t4 (.slice a3 Ln c3) tl ∧ Ot 66 (g + 1) (u1.alloc (Obj.cells (D5 t1 t2 t3 t4 (.slice a3 Ln c3)) 31)) (.slice a3 Ln c3) tl) := by
            have ha : Below u1.heap.size u1 (u1.alloc (Obj.cells (D5 t1 t2 t3 t4 (.slice a3 Ln c3)) 31)) := (Below.refl _ _).alloc (Nat.le_refl _) _
            exact ⟨⟨Blk.new _ _ _, HO3.out.rd.below ha⟩, (HO3.out.below ha).mono HG1.out⟩
          have HS5 : Hid (S (u1.alloc (Obj.cells (D5 0 0 0 0 (.slice none 0 0)) 31))) := (HSI.out _).2 (HB1.out.trans (((Below.refl _ _).alloc (Nat.le_refl _) _).mono HB1.out.size))
          have HS6 : Hid (S (u1.alloc (Obj.cells (D5 t1 t2 t3 t4 (.slice a3 Ln c3)) 31))) := (HSI.out _).2 HBA.out
          refine anyS_one 9 (by kernel_rfl) rfl ?_
          go_wp2
          refine ⟨by first | exact HS5.out | exact HS6.out, ?_⟩
          refine anyS_one 10 (by kernel_rfl) rfl ?_
          go_wp2
          refine ⟨by first | exact HS5.out | exact HS6.out, ?_⟩
          refine anyS_one 11 (by kernel_rfl) rfl ?_
          go_wp2
          refine ⟨by first | exact HS5.out | exact HS6.out, ?_⟩
          refine anyS_end (by kernel_rfl) ?_
          obtain ⟨gn, hgn⟩ : ∃ g, u1.heap.size = g := ⟨_, rfl⟩
          rw [hgn] at HJ ⊢
          exact ⟨rfl, gn, a3, c3, rfl, HBA, HJ⟩
        · have HBA : Hid (Below wr.heap.size wr (u0.alloc (Obj.cells (D5 0 0 0 0 (.slice none 0 0)) 31))) := HB0.out.trans (((Below.refl _ _).alloc (Nat.le_refl _) _).mono HB0.out.size)
          have HZ0 : Hid (Blk (u0.alloc (Obj.cells (D5 0 0 0 0 (.slice none 0 0)) 31)) u0.heap.size (D5 0 0 0 0 (.slice none 0 0)) 31) := Blk.new _ _ _
          have HG1 : Hid (g + 1 ≤ u0.heap.size) := Nat.lt_of_lt_of_le HA.out.box.lt HB0.out.size
          have HG0 : Hid (wr.heap.size ≤ u0.heap.size) := HB0.out.size
          go_wp2
          refine ⟨(HSI.out _).2 HBA.out, ?_⟩
          obtain ⟨gn, hgn⟩ : ∃ g, u0.heap.size = g := ⟨_, rfl⟩
          obtain ⟨u1, hu1⟩ : ∃ W, u0.alloc (Obj.cells (D5 0 0 0 0 (.slice none 0 0)) 31) = W := ⟨_, rfl⟩
          rw [hu1] at HBA HZ0 ⊢
          rw [hgn] at HZ0 HG1 HG0 ⊢
          clear hu1 hgn
          refine anyS_one 5 (by kernel_rfl) rfl ?_
          go_wp2_with (fail)
          refine (evI_t s1 c1 s2 c2 (.slice a1 n1 cap1) l1 x y u1 (HA.out.below HBA.out).own.rd HLN.out (t1, t2, t3, t4, tl) ok (fun _ => HT.out.symm) (fun hn => absurd HDO.out hn)).mono ?_
          rintro e u2 ⟨v3, rfl, o3, g3, -⟩
          obtain ⟨a3, c3, hv3, -⟩ := own_form o3
          simp only at hv3 o3
          rw [HLT.out] at hv3
          subst hv3
          have b2 : Below u1.heap.size u1 u2 := ⟨g3.os, g3.tape, g3.output, g3.size, fun j hj => g3.block j hj (by simp [Value.ownBlock])⟩
          have HB1 : Hid (Below wr.heap.size wr u2) := HBA.out.trans (b2.mono HBA.out.size)
          have HO3 : Hid (Ot 66 u1.heap.size u2 (.slice a3 Ln c3) tl) := o3
          have HZ2 : Hid (Blk u2 gn (D5 0 0 0 0 (.slice none 0 0)) 31) := HZ0.out.below b2 HZ0.out.lt
          have HGL : Hid (gn < u1.heap.size) := HZ0.out.lt
          clear o3 g3 b2
          go_wp2
          refine ⟨((HSI.out _).2 HB1.out), ?_⟩
          refine anyS_quiet [false, false, false, false, false, false, true, true, true, false, false, false] 2 rfl (by kernel_rfl) (fun _ _ _ _ _ h => by cases h.1) ((HSI.out _).2 HB1.out) ?_
          simp only [selT]
          repeat (go_big_quiet_step (fail))
          refine wpQuiet_nil ?_
          have HBS : Hid (Below wr.heap.size wr (st5 u2 gn t1 t2 t3 t4 (.slice a3 Ln c3))) := HB1.out.trans (grown_below (grown_put5 ..) HB1.out.size (fun k e => by cases e; exact HG0.out))
          have HJ : Hid (Aj (st5 u2 gn t1 t2 t3 t4 (.slice a3 Ln c3)) gn t1 t2 t3 t4 (.slice a3 Ln c3) tl ∧ Ot 66 (g + 1) (st5 u2 gn t1 t2 t3 t4 (.slice a3 Ln c3)) (.slice a3 Ln c3) tl) := by
            have ho := HO3.out.keepB (grown_put5 u2 gn t1 t2 t3 t4 (.slice a3 Ln c3)) (fun e => by have := (World.ownsRow.lt HO3.out _ e).1; have := HGL.out; omega)
            exact ⟨⟨put5 HZ2.out _ _ _ _ _, ho.rd⟩, ho.mono (by have := HGL.out; have := HG1.out; omega)⟩
          have z0 := HZ2.out.cell 0
          have zf0 := HZ2.out.frozen 0
          have z1 := HZ2.out.cell 1
          have zf1 := HZ2.out.frozen 1
          have z2 := HZ2.out.cell 2
          have zf2 := HZ2.out.frozen 2
          have z3 := HZ2.out.cell 3
          have zf3 := HZ2.out.frozen 3
          have z4 := HZ2.out.cell 4
          have zf4 := HZ2.out.frozen 4
          simp at z0 z1 z2 z3 z4
          obtain ⟨u3, hu3⟩ : ∃ W, st5 u2 gn t1 t2 t3 t4 (.slice a3 Ln c3) = W := ⟨_, rfl⟩
          rw [hu3] at HBS HJ
          unfold st5 at hu3
          refine anyS_one 10 (by kernel_rfl) rfl ?_
          go_wp2
          refine ⟨((HSI.out _).2 HBS.out), ?_⟩
          refine anyS_one 11 (by kernel_rfl) rfl ?_
          go_wp2
          refine ⟨((HSI.out _).2 HBS.out), ?_⟩
          refine anyS_end (by kernel_rfl) ?_
          exact ⟨rfl, gn, a3, c3, rfl, HBS, HJ⟩

      intro g6 a6 cp6 W8 hF8
      obtain ⟨HB8, HJ6⟩ := hF8
      have HA8 : Hid (Ai w W8 g s1 c1 s2 c2 (.slice a1 n1 cap1) l1 (.slice (some ⟨b, off, none⟩) m ecap) es) := HA.out.below HB8.out
      have hc0' : W8.cell? ⟨b, off + j * 2, none⟩ = some (.int .i64 x) := (HB8.out.cell (block_lt_of_cell HC0.out)).trans HC0.out
      have hc1' : W8.cell? ⟨b, off + j * 2 + 1, none⟩ = some (.int .i64 y) := (HB8.out.cell (block_lt_of_cell HC1.out)).trans HC1.out
      clear HA HC0 HC1 HB8 hc0 hc1 HSI HSD ne1 y0 y1 y2 y3 y4 x0 x1
      have HA := HA8
      have hc0 := hc0'
      have hc1 := hc1'
      clear HA8 hc0' hc1'
      obtain ⟨S, hS⟩ : ∃ S : World → Prop, ∀ W, S W ↔ Below W8.heap.size W8 W := ⟨_, fun _ => Iff.rfl⟩
      have HSI : Hid (∀ W, S W ↔ Below W8.heap.size W8 W) := hS
      have HSD : Hid (S W8.drew) := (hS _).2 (Below.refl _ _).drew
      have ne1 : Nonempty (At S) := ⟨⟨_, HSD.out⟩⟩
      have y0 : ∀ W : At S, W.wd.cell? ⟨g, 0, none⟩ = some (.int .i64 s1) := fun W => by rw [(HA.out.below ((hS _).1 W.ok)).box.cell 0]; rfl
      have y1 : ∀ W : At S, W.wd.cell? ⟨g, 1, none⟩ = some (.int .i64 c1) := fun W => by rw [(HA.out.below ((hS _).1 W.ok)).box.cell 1]; rfl
      have y2 : ∀ W : At S, W.wd.cell? ⟨g, 2, none⟩ = some (.int .i64 s2) := fun W => by rw [(HA.out.below ((hS _).1 W.ok)).box.cell 2]; rfl
      have y3 : ∀ W : At S, W.wd.cell? ⟨g, 3, none⟩ = some (.int .i64 c2) := fun W => by rw [(HA.out.below ((hS _).1 W.ok)).box.cell 3]; rfl
      have y4 : ∀ W : At S, W.wd.cell? ⟨g, 4, none⟩ = some (.slice a1 n1 cap1) := fun W => by rw [(HA.out.below ((hS _).1 W.ok)).box.cell 4]; rfl
      have x0 : ∀ W : At S, W.wd.cell? ⟨b, off + j * 2, none⟩ = some (.int .i64 x) := fun W => (((hS _).1 W.ok).cell (block_lt_of_cell hc0)).trans hc0
      have x1 : ∀ W : At S, W.wd.cell? ⟨b, off + j * 2 + 1, none⟩ = some (.int .i64 y) := fun W => (((hS _).1 W.ok).cell (block_lt_of_cell hc1)).trans hc1
      clear hS
      go_wp2
      apply reg_cut3 (F := fun g8 a3 c3 W => Hid (Below W8.heap.size W8 W) ∧ Hid (Aj W g8 t1 t2 t3 t4 (.slice a3 Ln c3) tl ∧ Ot 66 (g + 1) W (.slice a3 Ln c3) tl))
      · refine region_anyS S (by kernel_rfl) ?_
        refine anyS_quiet [true, true, true, true, true, false, false, false, false, false, false, false] 7 rfl (by kernel_rfl) (fun _ _ _ _ _ h => by cases h.1) HSD.out ?_
        simp only [selT]
        repeat (go_big_quiet_step (fail))
        refine wpQuiet_nil ?_
        obtain ⟨u0, hu0⟩ : ∃ W, W8.drew = W := ⟨_, rfl⟩
        have HB0 : Hid (Below W8.heap.size W8 u0) := hu0 ▸ (Below.refl _ _).drew
        rw [hu0]
        clear hu0
        refine anyS_two 5 9 (by kernel_rfl) rfl rfl ?_ ?_
        · go_wp2_with (fail)
          refine (evM_t s1 c1 s2 c2 (.slice a1 n1 cap1) l1 x y u0 (HA.out.below HB0.out).own.rd HLN.out (t1, t2, t3, t4, tl) ok (fun _ => HT.out.symm) (fun hn => absurd HDO.out hn)).mono ?_
          rintro e u1 ⟨v3, rfl, o3, g3, -⟩
          obtain ⟨a3, c3, hv3, -⟩ := own_form o3
          simp only at hv3 o3
          rw [HLT.out] at hv3
          subst hv3
          have b2 : Below u0.heap.size u0 u1 := ⟨g3.os, g3.tape, g3.output, g3.size, fun j hj => g3.block j hj (by simp [Value.ownBlock])⟩
          have HB1 : Hid (Below W8.heap.size W8 u1) := HB0.out.trans (b2.mono HB0.out.size)
          have HO3 : Hid (Ot 66 u0.heap.size u1 (.slice a3 Ln c3) tl) := o3
          have HG1 : Hid (g + 1 ≤ u0.heap.size) := Nat.lt_of_lt_of_le HA.out.box.lt HB0.out.size
          clear o3 g3 b2
          go_wp2
          refine ⟨((HSI.out _).2 HB1.out), ?_⟩
          refine anyS_quiet [false, false, false, false, false, false, true, true, true, false, false, false] 3 rfl (by kernel_rfl) (fun _ _ _ _ _ h => by cases h.1) ((HSI.out _).2 HB1.out) ?_
          simp only [selT]
          repeat (go_big_quiet_step (fail))
          refine wpQuiet_nil ?_
          have HBA : Hid (Below W8.heap.size W8 (u1.alloc (Obj.cells (D5 t1 t2 t3 t4 (.slice a3 Ln c3)) 31))) := HB1.out.trans (((Below.refl _ _).alloc (Nat.le_refl _) _).mono HB1.out.size)
          have HJ : Hid (Aj (u1.alloc (Obj.cells (D5 t1 t2 t3 t4 (.slice a3 Ln c3)) 31)) u1.heap.size t1 t2 t3 t4 (.slice a3 Ln c3) tl ∧ Ot 66 (g + 1) (u1.alloc (Obj.cells (D5 t1 t2 t3 t4 (.slice a3 Ln c3)) 31)) (.slice a3 Ln c3) tl) := by
            have ha : Below u1.heap.size u1 (u1.alloc (Obj.cells (D5 t1 t2 t3 t4 (.slice a3 Ln c3)) 31)) := (Below.refl _ _).alloc (Nat.le_refl _) _
            exact ⟨⟨Blk.new _ _ _, HO3.out.rd.below ha⟩, (HO3.out.below ha).mono HG1.out⟩
          have HS5 : Hid (S (u1.alloc (Obj.cells (D5 0 0 0 0 (.slice none 0 0)) 31))) := (HSI.out _).2 (HB1.out.trans (((Below.refl _ _).alloc (Nat.le_refl _) _).mono HB1.out.size))
          have HS6 : Hid (S (u1.alloc (Obj.cells (D5 t1 t2 t3 t4 (.slice a3 Ln c3)) 31))) := (HSI.out _).2 HBA.out
          refine anyS_one 9 (by kernel_rfl) rfl ?_
          go_wp2
          refine ⟨by first | exact HS5.out | exact HS6.out, ?_⟩
          refine anyS_one 10 (by kernel_rfl) rfl ?_
          go_wp2
          refine ⟨by first | exact HS5.out | exact HS6.out, ?_⟩
          refine anyS_one 11 (by kernel_rfl) rfl ?_
          go_wp2
          refine ⟨by first | exact HS5.out | exact HS6.out, ?_⟩
          refine anyS_end (by kernel_rfl) ?_
          obtain ⟨gn, hgn⟩ : ∃ g, u1.heap.size = g := ⟨_, rfl⟩
          rw [hgn] at HJ ⊢
          exact ⟨rfl, gn, a3, c3, rfl, HBA, HJ⟩
        · have HBA : Hid (Below W8.heap.size W8 (u0.alloc (Obj.cells (D5 0 0 0 0 (.slice none 0 0)) 31))) := HB0.out.trans (((Below.refl _ _).alloc (Nat.le_refl _) _).mono HB0.out.size)
          have HZ0 : Hid (Blk (u0.alloc (Obj.cells (D5 0 0 0 0 (.slice none 0 0)) 31)) u0.heap.size (D5 0 0 0 0 (.slice none 0 0)) 31) := Blk.new _ _ _
          have HG1 : Hid (g + 1 ≤ u0.heap.size) := Nat.lt_of_lt_of_le HA.out.box.lt HB0.out.size
          have HG0 : Hid (W8.heap.size ≤ u0.heap.size) := HB0.out.size
          go_wp2
          refine ⟨(HSI.out _).2 HBA.out, ?_⟩
          obtain ⟨gn, hgn⟩ : ∃ g, u0.heap.size = g := ⟨_, rfl⟩
          obtain ⟨u1, hu1⟩ : ∃ W, u0.alloc (Obj.cells (D5 0 0 0 0 (.slice none 0 0)) 31) = W := ⟨_, rfl⟩
          rw [hu1] at HBA HZ0 ⊢
          rw [hgn] at HZ0 HG1 HG0 ⊢
          clear hu1 hgn
          refine anyS_one 5 (by kernel_rfl) rfl ?_
          go_wp2_with (fail)
          refine (evM_t s1 c1 s2 c2 (.slice a1 n1 cap1) l1 x y u1 (HA.out.below HBA.out).own.rd HLN.out (t1, t2, t3, t4, tl) ok (fun _ => HT.out.symm) (fun hn => absurd HDO.out hn)).mono ?_
          rintro e u2 ⟨v3, rfl, o3, g3, -⟩
          obtain ⟨a3, c3, hv3, -⟩ := own_form o3
          simp only at hv3 o3
          rw [HLT.out] at hv3
          subst hv3
          have b2 : Below u1.heap.size u1 u2 := ⟨g3.os, g3.tape, g3.output, g3.size, fun j hj => g3.block j hj (by simp [Value.ownBlock])⟩
          have HB1 : Hid (Below W8.heap.size W8 u2) := HBA.out.trans (b2.mono HBA.out.size)
          have HO3 : Hid (Ot 66 u1.heap.size u2 (.slice a3 Ln c3) tl) := o3
          have HZ2 : Hid (Blk u2 gn (D5 0 0 0 0 (.slice none 0 0)) 31) := HZ0.out.below b2 HZ0.out.lt
          have HGL : Hid (gn < u1.heap.size) := HZ0.out.lt
          clear o3 g3 b2
          go_wp2
          refine ⟨((HSI.out _).2 HB1.out), ?_⟩
          refine anyS_quiet [false, false, false, false, false, false, true, true, true, false, false, false] 2 rfl (by kernel_rfl) (fun _ _ _ _ _ h => by cases h.1) ((HSI.out _).2 HB1.out) ?_
          simp only [selT]
          repeat (go_big_quiet_step (fail))
          refine wpQuiet_nil ?_
          have HBS : Hid (Below W8.heap.size W8 (st5 u2 gn t1 t2 t3 t4 (.slice a3 Ln c3))) := HB1.out.trans (grown_below (grown_put5 ..) HB1.out.size (fun k e => by cases e; exact HG0.out))
          have HJ : Hid (Aj (st5 u2 gn t1 t2 t3 t4 (.slice a3 Ln c3)) gn t1 t2 t3 t4 (.slice a3 Ln c3) tl ∧ Ot 66 (g + 1) (st5 u2 gn t1 t2 t3 t4 (.slice a3 Ln c3)) (.slice a3 Ln c3) tl) := by
            have ho := HO3.out.keepB (grown_put5 u2 gn t1 t2 t3 t4 (.slice a3 Ln c3)) (fun e => by have := (World.ownsRow.lt HO3.out _ e).1; have := HGL.out; omega)
            exact ⟨⟨put5 HZ2.out _ _ _ _ _, ho.rd⟩, ho.mono (by have := HGL.out; have := HG1.out; omega)⟩
          have z0 := HZ2.out.cell 0
          have zf0 := HZ2.out.frozen 0
          have z1 := HZ2.out.cell 1
          have zf1 := HZ2.out.frozen 1
          have z2 := HZ2.out.cell 2
          have zf2 := HZ2.out.frozen 2
          have z3 := HZ2.out.cell 3
          have zf3 := HZ2.out.frozen 3
          have z4 := HZ2.out.cell 4
          have zf4 := HZ2.out.frozen 4
          simp at z0 z1 z2 z3 z4
          obtain ⟨u3, hu3⟩ : ∃ W, st5 u2 gn t1 t2 t3 t4 (.slice a3 Ln c3) = W := ⟨_, rfl⟩
          rw [hu3] at HBS HJ
          unfold st5 at hu3
          refine anyS_one 10 (by kernel_rfl) rfl ?_
          go_wp2
          refine ⟨((HSI.out _).2 HBS.out), ?_⟩
          refine anyS_one 11 (by kernel_rfl) rfl ?_
          go_wp2
          refine ⟨((HSI.out _).2 HBS.out), ?_⟩
          refine anyS_end (by kernel_rfl) ?_
          exact ⟨rfl, gn, a3, c3, rfl, HBS, HJ⟩

      intro g8 a8 cp8 W9 hF9
      obtain ⟨HB9, HJ8⟩ := hF9
      have HA9 : Hid (Ai w W9 g s1 c1 s2 c2 (.slice a1 n1 cap1) l1 (.slice (some ⟨b, off, none⟩) m ecap) es) := HA.out.below HB9.out
      have HJ9 : Hid (Aj W9 g6 t1 t2 t3 t4 (.slice a6 Ln cp6) tl ∧ Ot 66 (g + 1) W9 (.slice a6 Ln cp6) tl) := ⟨HJ6.out.1.below HB9.out, HJ6.out.2.below HB9.out⟩
      clear HA HB9 hc0 hc1 HSI HSD ne1 y0 y1 y2 y3 y4 x0 x1 HJ6
      have k0 := HJ9.out.1.box.cell 0
      have k1 := HJ9.out.1.box.cell 1
      have k2 := HJ9.out.1.box.cell 2
      have k3 := HJ9.out.1.box.cell 3
      have k4 := HJ9.out.1.box.cell 4
      simp at k0 k1 k2 k3 k4
      have q0 := HJ8.out.1.box.cell 0
      have q1 := HJ8.out.1.box.cell 1
      have q2 := HJ8.out.1.box.cell 2
      have q3 := HJ8.out.1.box.cell 3
      have q4 := HJ8.out.1.box.cell 4
      simp at q0 q1 q2 q3 q4

      have hokk : (ok != ok) = false := by simp
      have hLL : (Ln != Ln) = false := by simp
      have HOK : Hid (Calls Try.prog 14 #[.agg (D5 t1 t2 t3 t4 (.slice a6 Ln cp6))] W9 fun e w' => e = .returned (.bool true) ∧ Below W9.heap.size W9 w') := (okM_c t1 t2 t3 t4 (.slice a6 Ln cp6) tl W9 HJ9.out.1.rd).mono (by
        rintro e w' ⟨r, rfl, hr, hb⟩
        obtain rfl : r = true := hr.2 HD2.out
        exact ⟨rfl, hb⟩)
      go_wp2_with (fail)
      rw [halvesEq]
      simp only [Result.andThen_ok, Bool.not_true]
      go_wp2_with (fail)
      refine HOK.out.mono ?_
      rintro e W10 ⟨rfl, b10⟩
      have HA10 : Hid (Ai w W10 g s1 c1 s2 c2 (.slice a1 n1 cap1) l1 (.slice (some ⟨b, off, none⟩) m ecap) es) := HA9.out.below b10
      have HJ10 : Hid (Aj W10 g6 t1 t2 t3 t4 (.slice a6 Ln cp6) tl ∧ Ot 66 (g + 1) W10 (.slice a6 Ln cp6) tl) := ⟨HJ9.out.1.below b10, HJ9.out.2.below b10⟩
      clear HA9 HJ9 HJ8 HOK b10 k0 k1 k2 k3 k4 q0 q1 q2 q3 q4
      have k0 := HJ10.out.1.box.cell 0
      have k1 := HJ10.out.1.box.cell 1
      have k2 := HJ10.out.1.box.cell 2
      have k3 := HJ10.out.1.box.cell 3
      have k4 := HJ10.out.1.box.cell 4
      simp at k0 k1 k2 k3 k4
      have q0 := HA10.out.box.cell 0
      have qf0 := HA10.out.box.frozen 0
      have q1 := HA10.out.box.cell 1
      have qf1 := HA10.out.box.frozen 1
      have q2 := HA10.out.box.cell 2
      have qf2 := HA10.out.box.frozen 2
      have q3 := HA10.out.box.cell 3
      have qf3 := HA10.out.box.frozen 3
      have q4 := HA10.out.box.cell 4
      have qf4 := HA10.out.box.frozen 4
      simp at q0 q1 q2 q3 q4

      have hbx := HA10.out.box.lt
      have HA11 : Hid (Ai w (st5 W10 g t1 t2 t3 t4 (.slice a6 Ln cp6)) g t1 t2 t3 t4 (.slice a6 Ln cp6) tl (.slice (some ⟨b, off, none⟩) m ecap) es) := HA10.out.put HJ10.out.2 t1 t2 t3 t4
      obtain ⟨W11, hW11⟩ : ∃ W, st5 W10 g t1 t2 t3 t4 (.slice a6 Ln cp6) = W := ⟨_, rfl⟩
      rw [hW11] at HA11
      unfold st5 at hW11
      clear HA10 HJ10
      go_wp2
      go_roundw
      case rel => exact ⟨j + 1, by omega, by go_num, _, _, _, _, _, _, HA11.out, HD2.out, HW2.out⟩
      case measure => simp [intOf]; omega
    case neg =>
      obtain rfl : j = m := by omega
      have hjI : ((j : Int) < (j : Int)) = False := eq_false (by omega)
      have hz1 := doE_zero
      have HZS : Hid (doE (0, 0, 0, 0, []) 1 0 = ((1, 1, 0, 0, [(1, 1, 1)]), true)) := hz1
      have HS : Hid (∀ W, Below wr.heap.size wr W → Calls Try.prog 15 #[.agg (D5 s1 c1 s2 c2 (.slice a1 n1 cap1)), .int .i64 3] W (SeR (s1, c1, s2, c2, l1) 3 W)) := fun W hW => setI_c s1 c1 s2 c2 (.slice a1 n1 cap1) l1 3 W (hA.own.rd.below hW) HLN.out
      clear hz1 hdo hhw hn1 hA hmb
      have k0 := HA.out.box.cell 0
      have k1 := HA.out.box.cell 1
      have k2 := HA.out.box.cell 2
      have k3 := HA.out.box.cell 3
      have k4 := HA.out.box.cell 4
      simp at k0 k1 k2 k3 k4
      go_wp2_with (fail)
      refine (HS.out _ (Below.refl _ _)).mono ?_
      rintro e W1 ⟨d', hd1, -, hd3, v5, rfl, o5, g5, -⟩
      obtain ⟨d1, hs1, hs2⟩ := hd1 ⟨HDO.out, by decide, by decide⟩
      obtain ⟨hag, hdo'⟩ := settle_agrees (n := 2) HDO.out HHW.out hs1 hs2
      obtain ⟨p1, p2, p3, p4, pl⟩ := d'
      simp only at hd3 o5 hag
      subst hd3
      have hp : p2 = c1 ∧ AgC p1 p2 p3 p4 := by
        unfold AgC
        rcases hag with h | h | h <;> (simp only [Prod.mk.injEq] at h; omega)
      have HDO5 : Hid (DOk p1 p2 p3 p4 []) := hdo'
      have HPP : Hid (p2 = c1 ∧ AgC p1 p2 p3 p4) := hp
      obtain ⟨a5, cp5, hv5, -⟩ := own_form o5
      simp only [List.length_nil] at hv5
      subst hv5
      have b5 : Below wr.heap.size wr W1 := ⟨g5.os, g5.tape, g5.output, g5.size, fun j hj => g5.block j hj (by simp [Value.ownBlock])⟩
      have HA1 : Hid (Ai w W1 g s1 c1 s2 c2 (.slice a1 n1 cap1) l1 (.slice ea j ecap) es) := HA.out.below b5
      have HA2 : Hid (Ai w (W1.alloc (Obj.cells (D5 p1 p2 p3 p4 (.slice a5 0 cp5)) 31)) g s1 c1 s2 c2 (.slice a1 n1 cap1) l1 (.slice ea j ecap) es) := HA1.out.below ((Below.refl _ _).alloc (Nat.le_refl _) _)
      have HJ2 : Hid (Aj (W1.alloc (Obj.cells (D5 p1 p2 p3 p4 (.slice a5 0 cp5)) 31)) W1.heap.size p1 p2 p3 p4 (.slice a5 0 cp5) []) := ⟨Blk.new _ _ _, o5.rd.below ((Below.refl _ _).alloc (Nat.le_refl _) _)⟩
      obtain ⟨W2, hW2⟩ : ∃ W, W1.alloc (Obj.cells (D5 p1 p2 p3 p4 (.slice a5 0 cp5)) 31) = W := ⟨_, rfl⟩
      obtain ⟨g10, hg10⟩ : ∃ k, W1.heap.size = k := ⟨_, rfl⟩
      have HW2 : Hid (W1.alloc (Obj.cells (D5 p1 p2 p3 p4 (.slice a5 0 cp5)) 31) = W2) := hW2
      have HG10 : Hid (W1.heap.size = g10) := hg10
      rw [hW2] at HA2 HJ2
      rw [hg10] at HJ2
      have HE : Hid (∀ W, Calls Try.prog 12 #[.agg (D5 0 0 0 0 (.slice none 0 0)), .agg (H2 1 0)] W (DuR W.heap.size W (.slice none 0 0) (1, 1, 0, 0, [(1, 1, 1)]) true)) := fun W => evI_t 0 0 0 0 (.slice none 0 0) [] 1 0 W (Ot.nil 0 W).rd (by simp) _ _ (fun _ => HZS.out.symm) (fun h => absurd hw_zero.1 h)
      clear hd1 hs1 hs2 hag hdo' hp o5 g5 b5 HA HA1 HS HDO HHW hW2 hg10 k0 k1 k2 k3 k4
      go_wp2_with (fail)
      rw [HW2.out, HG10.out]
      clear HW2 HG10
      refine (HE.out _).mono ?_
      rintro e W3 ⟨v6, rfl, o6, g6, -⟩
      obtain ⟨a6, cp6, hv6, -⟩ := own_form o6
      simp only [List.length_cons, List.length_nil] at hv6
      subst hv6
      have b6 : Below W2.heap.size W2 W3 := ⟨g6.os, g6.tape, g6.output, g6.size, fun j hj => g6.block j hj (by simp [Value.ownBlock])⟩
      have b7 : Below W3.heap.size W3 (W3.alloc (Obj.cells (D5 1 1 0 0 (.slice a6 (0 + 1) cp6)) 31)) := (Below.refl _ _).alloc (Nat.le_refl _) _
      have HA3 : Hid (Ai w (W3.alloc (Obj.cells (D5 1 1 0 0 (.slice a6 (0 + 1) cp6)) 31)) g s1 c1 s2 c2 (.slice a1 n1 cap1) l1 (.slice ea j ecap) es) := (HA2.out.below b6).below b7
      have HJ3 : Hid (Aj (W3.alloc (Obj.cells (D5 1 1 0 0 (.slice a6 (0 + 1) cp6)) 31)) g10 p1 p2 p3 p4 (.slice a5 0 cp5) []) := (HJ2.out.below b6).below b7
      have HK3 : Hid (Blk (W3.alloc (Obj.cells (D5 1 1 0 0 (.slice a6 (0 + 1) cp6)) 31)) W3.heap.size (D5 1 1 0 0 (.slice a6 (0 + 1) cp6)) 31) := Blk.new _ _ _
      obtain ⟨W4, hW4⟩ : ∃ W, W3.alloc (Obj.cells (D5 1 1 0 0 (.slice a6 (0 + 1) cp6)) 31) = W := ⟨_, rfl⟩
      obtain ⟨g11, hg11⟩ : ∃ k, W3.heap.size = k := ⟨_, rfl⟩
      have HW4 : Hid (W3.alloc (Obj.cells (D5 1 1 0 0 (.slice a6 (0 + 1) cp6)) 31) = W4) := hW4
      have HG11 : Hid (W3.heap.size = g11) := hg11
      rw [hW4] at HA3 HJ3 HK3
      rw [hg11] at HK3
      clear b6 b7 o6 g6 HE HA2 HJ2 HZS
      have r0 := HK3.out.cell 0
      have r1 := HK3.out.cell 1
      simp at r0 r1
      have s0 := HJ3.out.box.cell 0
      have s1' := HJ3.out.box.cell 1
      have s2' := HJ3.out.box.cell 2
      have s3' := HJ3.out.box.cell 3
      have s4' := HJ3.out.box.cell 4
      simp at s0 s1' s2' s3' s4'
      have t0 := HA3.out.box.cell 1
      simp at t0
      have HOK : Hid (∀ W, Below W4.heap.size W4 W → Calls Try.prog 14 #[.agg (D5 p1 p2 p3 p4 (.slice a5 0 cp5))] W fun e w' => e = .returned (.bool true) ∧ Below W.heap.size W w') := fun W hW => (okM_c p1 p2 p3 p4 (.slice a5 0 cp5) [] W (HJ3.out.rd.below hW)).mono (by
        rintro e w' ⟨r, rfl, hr, hb⟩
        obtain rfl : r = true := hr.2 HDO5.out
        exact ⟨rfl, hb⟩)
      have HAI : Hid (∀ W, Below W4.heap.size W4 W → Calls Try.prog 16 #[.agg (D5 p1 p2 p3 p4 (.slice a5 0 cp5))] W fun e w' => e = .returned (.bool true) ∧ Below W.heap.size W w') := fun W hW => (agI_c p1 p2 p3 p4 (.slice a5 0 cp5) [] W (HJ3.out.rd.below hW)).mono (by
        rintro e w' ⟨r, rfl, hr, hb⟩
        obtain rfl : r = true := hr.2 ⟨HDO5.out, HPP.out.2⟩
        exact ⟨rfl, hb⟩)
      have HAM : Hid (∀ W, Below W4.heap.size W4 W → Calls Try.prog 17 #[.agg (D5 p1 p2 p3 p4 (.slice a5 0 cp5))] W fun e w' => e = .returned (.bool true) ∧ Below W.heap.size W w') := fun W hW => (agM_c p1 p2 p3 p4 (.slice a5 0 cp5) [] W (HJ3.out.rd.below hW)).mono (by
        rintro e w' ⟨r, rfl, hr, hb⟩
        obtain rfl : r = true := hr.2 ⟨HDO5.out, HPP.out.2⟩
        exact ⟨rfl, hb⟩)
      have HBW : Hid (Below w.heap.size w W4) := HA3.out.bel
      have HBX : Hid (∀ W, Below W4.heap.size W4 W → Aj W g10 p1 p2 p3 p4 (.slice a5 0 cp5) [] ∧ Blk W g (D5 s1 c1 s2 c2 (.slice a1 n1 cap1)) 31) := fun W hW => ⟨HJ3.out.below hW, (HA3.out.below hW).box⟩
      clear HJ3 HA3 HK3
      go_wp2_with (fail)
      refine (HOK.out _ (Below.refl _ _)).mono ?_
      rintro e X0 ⟨rfl, c0⟩
      clear r0 r1 s0 s1' s2' s3' s4' t0 hW4
      have K0 := HBX.out X0 c0
      have s00 := K0.1.box.cell 0
      have s01 := K0.1.box.cell 1
      have s02 := K0.1.box.cell 2
      have s03 := K0.1.box.cell 3
      have s04 := K0.1.box.cell 4
      have t0 := K0.2.cell 1
      simp at s00 s01 s02 s03 s04 t0
      have HC0 : Hid (Below W4.heap.size W4 X0) := c0
      clear K0 c0
      go_wp2_with (fail)
      refine (HAI.out _ HC0.out).mono ?_
      rintro e X1 ⟨rfl, d0⟩
      have c1 : Below W4.heap.size W4 X1 := belowCall HC0.out d0 HC0.out.size
      clear d0 s00 s01 s02 s03 s04 t0
      have K1 := HBX.out X1 c1
      have s10 := K1.1.box.cell 0
      have s11 := K1.1.box.cell 1
      have s12 := K1.1.box.cell 2
      have s13 := K1.1.box.cell 3
      have s14 := K1.1.box.cell 4
      have t1 := K1.2.cell 1
      simp at s10 s11 s12 s13 s14 t1
      have HC1 : Hid (Below W4.heap.size W4 X1) := c1
      clear K1 c1
      go_wp2_with (fail)
      refine (HAM.out _ HC1.out).mono ?_
      rintro e X2 ⟨rfl, d1⟩
      have c2' : Below W4.heap.size W4 X2 := belowCall HC1.out d1 HC1.out.size
      clear d1 s10 s11 s12 s13 s14 t1
      have K2 := HBX.out X2 c2'
      have s21 := K2.1.box.cell 1
      have t2 := K2.2.cell 1
      simp at s21 t2
      have HFB : Hid (Below w.heap.size w X2) := belowCall HBW.out c2' HBW.out.size
      obtain ⟨hpc, -⟩ := HPP.out
      subst hpc
      clear K2 c2'
      go_wp2
      go_ret
      exact ⟨rfl, HFB.out⟩
end Go.Proofs.Ytljejjfhlpjlfaa
