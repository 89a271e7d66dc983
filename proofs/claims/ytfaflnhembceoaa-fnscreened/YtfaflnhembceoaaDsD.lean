/- Subs that may not be right are drawn; no condition. -/
import Derived.Test.YtfaflnhembceoaaDsC
import Derived.Test.YtfaflnhembceoaaMixF
import Derived.Deep.DeepCutAuto
namespace Go.Proofs.Ytfaflnhembceoaa
open Go.RowKit Go.ChangeShapes Go.WideShapes Go.ChangeAt
set_option linter.unusedVariables false
set_option linter.unusedSimpArgs false
set_option maxRecDepth 8000

/-- what is drawn: subs that may not be right -/
def DaR (g : Nat) (cv : Value) (zs : List Int) (w : World) (e : Ending) (w' : World) : Prop := ∃ (v : Value) (cs : Sbs), e = .returned v ∧ (∀ W, w'.grownBy W (some g) → RdS W v cs) ∧ cs.length ≤ 17 ∧ (∀ c ∈ cs, c.2.2.length ≤ 4) ∧ Dc w w' g cv zs
/-- the first sub has one feature more -/
theorem OwT.more {base : Nat} {w w1 w2 : World} {b cap N : Nat} {lv : List V3} {cs : Sbs} {y : Int × Int} {fv : Value} (h : OwT base w (.slice (some ⟨b, 0, none⟩) N cap) lv cs) (hN : cs.length = N) (hl : 0 < lv.length)
    (hf : Op mf mg 37 base w1 fv ((cs.getD 0 sb0).2.2 ++ [y])) (hg : w.grownBy w1 lv[0].2.2.ownBlock) (hW : w1.setCell ⟨b, 2, none⟩ fv = w2) {g : Nat} (hgb : g < base) :
    ∃ cs', (∀ W, w2.grownBy W (some g) → RdS W (.slice (some ⟨b, 0, none⟩) N cap) cs') ∧ cs'.length = N ∧ (∀ K, (∀ c ∈ cs, c.2.2.length ≤ K) → ∀ c ∈ cs', c.2.2.length ≤ K + 1) := by
  obtain ⟨h1, h2, h3⟩ := h
  obtain rfl : N = lv.length := by omega
  have hc : 0 < cs.length := by omega
  have hx := h3 0 hl hc
  have own1 : Oq 35 base w1 (.slice (some ⟨b, 0, none⟩) lv.length cap) lv := World.ownsRow.kept h2 hg (by
    rcases own_tag h2 hx.2.2.1 (by decide) with e | e
    · exact .inl e
    · exact .inr e)
  have hst := World.ownsRow.stored own1 2 fv
  rw [hW] at hst
  have hset := tq_set2 lv 0 fv hl
  have hgw : w1.grownBy w2 (some b) := by rw [← hW]; exact grown_set _ _ _ _
  have hd0 : lv.getD 0 (fv, fv, fv) = lv[0] := by rw [List.getD_eq_getElem?_getD, List.getElem?_eq_getElem hl]; rfl
  rw [hd0] at hset
  have kp : ∀ {W : World} {e s n : Nat} {u : Value} {xs : List Value}, w2.grownBy W (some g) → w2.ownsRow base e s u n xs → W.ownsRow base e s u n xs := fun {W e s n u xs} hg ho => World.ownsRow.kept ho hg (by
    cases hv : u.ownBlock with
    | none => exact .inl rfl
    | some k => exact .inr (fun e => by have := (World.ownsRow.lt ho k hv).1; have := Option.some.inj e; omega))
  have oq2 : Oq 35 base w2 (.slice (some ⟨b, 0, none⟩) lv.length cap) (lv.set 0 (lv[0].1, lv[0].2.1, fv)) := by
      unfold Oq
      rw [← hset, List.length_set]
      simpa using hst.1
  have hcd : cs.getD 0 sb0 = cs[0] := by rw [List.getD_eq_getElem?_getD, List.getElem?_eq_getElem hc]; rfl
  rw [hcd] at hf
  have ftag : ∀ {u : Value} {ls : Fts}, Op mf mg 37 base w1 u ls → Op mf mg 37 base w2 u ls := fun {u} {ls} hu =>
    World.ownsRow.kept hu hgw (by
      rcases own_tag hu own1 (by decide) with e | e
      · exact .inl e
      · exact .inr e)
  refine ⟨cs.set 0 (cs[0].1, cs[0].2.1, cs[0].2.2 ++ [y]), fun W hgW => ⟨lv.set 0 (lv[0].1, lv[0].2.1, fv), by simp [h1], Oq.rd (kp hgW oq2), fun i hi hi' => ?_⟩, by simp [h1], fun K hK c hcm => ?_⟩
  · by_cases e : i = 0
    · subst e
      simp only [List.getElem_set_self]
      exact ⟨hx.1, hx.2.1, Op.rd (kp hgW (ftag hf))⟩
    · have e1 : i < cs.length := by simpa using hi
      have e2 : i < lv.length := by simpa using hi'
      simp only [List.getElem_set_ne (show 0 ≠ i by omega)]
      obtain ⟨a1, a2, a3, a4, a5⟩ := h3 i e2 e1
      exact ⟨a1, a2, Op.rd (kp hgW (ftag (World.ownsRow.kept a3 hg (a5 0 hl (by omega)))))⟩
  · rcases List.mem_or_eq_of_mem_set hcm with q | q
    · have := hK c q; omega
    · subst q
      have := hK cs[0] (List.getElem_mem hc)
      simp only [List.length_append, List.length_singleton]; omega
set_option maxHeartbeats 12800000 in
theorem l7Any_c (g : Nat) (cv : Value) (zs : List Int) (w : World) (h : Dr w g cv zs) : Calls Try.prog 38 #[.pointer (some ⟨g, 0, none⟩), cv] w (DaR g cv zs w) := by
  have HD0 : Hid (Dc w w g cv zs) := Dc.start h
  obtain ⟨ca, cc, rfl, -, -, -⟩ := h.rd
  obtain ⟨zl, hzl⟩ : ∃ k, zs.length = k := ⟨_, rfl⟩
  have HZL : Hid (zs.length = zl) := hzl
  rw [hzl] at HD0 ⊢
  have HRC : Hid (Rd .u8 w (.slice ca zl cc) zs) := by have := h.rd; rw [hzl] at this; exact this
  clear h hzl
  go_enter Try.func38, Try.ntmps38
  go_wp2_with (fail)
  refine (size_c _ zs 6 w HRC.out (by omega) (by omega)).mono ?_
  rintro e wz ⟨m, rfl, m0, m1, hwz⟩
  rw [hwz]
  clear hwz
  go_wp2_with (fail)
  refine (below_c _ _ _ _ _ HD0.out.dr (by omega)).mono ?_
  rintro e w1 ⟨x, rfl, x0, x1, -, d1, g1⟩
  have x1' := x1 (by omega)
  have HD1 : Hid (Dc w w1 g (.slice ca zl cc) zs) := HD0.out.draw d1 g1
  clear d1 g1 x1
  obtain ⟨n, hn⟩ : ∃ n, 2 + x = n := ⟨_, rfl⟩
  have hn2 : 2 ≤ n ∧ n ≤ 8 := by omega
  obtain ⟨hn2, hn8⟩ := hn2
  have HN : Hid (2 + x = n) := hn
  clear hn
  go_wp2_with (fail)
  rw [HN.out]
  refine (l7Draw_c g _ zs n w1 HD1.out.dr hn2 hn8).mono ?_
  rintro e w2 ⟨v, lv, cs, rfl, o2, hcl, hcs, d2⟩
  have HD2 : Hid (Dc w w2 g (.slice ca zl cc) zs) := ⟨d2.dr, grown_trans HD1.out.gr d2.gr, HD1.out.lt, HD1.out.cl⟩
  have HO2 : Hid (OwT w1.heap.size w2 v lv cs) := o2
  have HCS : Hid (∀ c ∈ cs, c.2.2.length ≤ 3) := hcs
  have HWW : Hid (w.heap.size ≤ w1.heap.size ∧ g < w1.heap.size) := ⟨HD1.out.gr.size, d2.lt⟩
  obtain ⟨N, hN⟩ : ∃ N : Nat, cs.length = N := ⟨_, rfl⟩
  have HNN : Hid (cs.length = N) := hN
  have hNn : 2 ≤ N ∧ N ≤ 8 := by omega
  obtain ⟨hN2, hN8⟩ := hNn
  obtain ⟨b, cap, hv⟩ : ∃ b cap, v = .slice (some ⟨b, 0, none⟩) N cap := by
    rcases o2.own.2 with ⟨-, e2⟩ | ⟨b, cp, cur, e1, -⟩
    · have := o2.len; omega
    · exact ⟨b, cp, by rw [← hN, ← o2.len]; exact e1⟩
  subst hv
  clear o2 hcl hcs d2 hN HD1 HD0 HRC HN
  go_wp2_with (fail)
  refine (below_c _ _ _ _ _ HD2.out.dr (by omega)).mono ?_
  rintro e w3 ⟨t, rfl, t0, -, -, d3, g3⟩
  have HD3 : Hid (Dc w w3 g (.slice ca zl cc) zs) := HD2.out.draw d3 g3
  have HO3 : Hid (OwT w1.heap.size w3 (.slice (some ⟨b, 0, none⟩) N cap) lv cs) := HO2.out.draw g3 HWW.out.2
  clear d3 g3 HO2
  by_cases q0 : t = 0
  · have e0 : (t == 0) = true := by simp [q0]
    clear q0
    obtain ⟨fv, hfv⟩ : ∃ x, lv[0]'(by have h1 := HO3.out.len; have h2 := HNN.out; omega) = x := ⟨_, rfl⟩
    have hl0 : 0 < lv.length := by have h1 := HO3.out.len; have h2 := HNN.out; omega
    obtain ⟨f0, f1, f2⟩ := fv
    have HFV : Hid (lv[0]'hl0 = (f0, f1, f2)) := hfv
    have hc0 : 0 < cs.length := by have h2 := HNN.out; omega
    have hx := HO3.out.all 0 hl0 hc0
    rw [hfv] at hx
    obtain ⟨fs, hfs⟩ : ∃ x, cs[0].2.2 = x := ⟨_, rfl⟩
    have HFS : Hid (cs[0].2.2 = fs) := hfs
    have HOF : Hid (Op mf mg 37 w1.heap.size w3 f2 fs) := by have := hx.2.2.1; rw [hfs] at this; exact this
    have HFL : Hid (fs.length ≤ 3) := by have := HCS.out cs[0] (List.getElem_mem hc0); rw [hfs] at this; exact this
    have hcell : w3.cell? ⟨b, 2, none⟩ = some f2 := by
      have ow : w3.ownsRow w1.heap.size 35 3 (.slice (some ⟨b, 0, none⟩) N cap) N (tq lv) := by
        have h7 := HO3.out.own
        unfold Oq at h7
        rw [show lv.length = N by have h8 := HO3.out.len; have h9 := HNN.out; omega] at h7
        exact h7
      have h2 := ow.cellAt 2 (by omega)
      rw [h2]
      have := (tq_at lv 0 hl0).2.2
      rw [hfv] at this
      simpa using this
    have HCELL : Hid (w3.cell? ⟨b, 2, none⟩ = some f2) := hcell
    have hbg : b ≠ g := by have h1 := (World.ownsRow.lt HO3.out.own b rfl).1; have h2 := HWW.out.2; omega
    obtain ⟨fa, fc, hf2, -⟩ := HOF.out.rd
    obtain ⟨fl, hfl⟩ : ∃ q, fs.length = q := ⟨_, rfl⟩
    rw [hfl] at hf2
    subst hf2
    clear hx hfs hfl hfv hcell
    obtain ⟨S, hS⟩ : ∃ S : World → Prop, ∀ W, S W ↔ W.cell? ⟨b, 2, none⟩ = some (.slice fa fl fc) := ⟨_, fun _ => Iff.rfl⟩
    have t2 : ∀ W : At S, W.wd.cell? ⟨b, 2, none⟩ = some (.slice fa fl fc) := fun W => (hS _).1 W.ok
    have HSI : Hid (∀ W, W.cell? ⟨b, 2, none⟩ = some (.slice fa fl fc) → S W) := fun W h => (hS W).2 h
    have ne1 : Nonempty (At S) := ⟨⟨w3.drew, HSI.out _ HCELL.out⟩⟩
    have hNI : (0 : Int) < (N : Int) := by omega
    clear hS
    go_upto_region 4 with fail
    refine region_anyZ S 15 (by kernel_rfl) ?_
    refine anyZ_quiet [true, true, true, true, true, true, false, true, true, false, false, false, false, false, false, false, false, false] 10 rfl (by kernel_rfl) (fun _ _ _ _ _ h => h) (HSI.out _ HCELL.out) ?_
    simp only [selT]
    repeat (go_big_quiet_step (fail))
    refine wpQuiet_nil ?_
    clear t2 ne1
    have HDd : Hid (Dc w w3.drew g (.slice ca zl cc) zs) := HD3.out.below ((Below.refl _ _).drew)
    have HOd : Hid (OwT w1.heap.size w3.drew (.slice (some ⟨b, 0, none⟩) N cap) lv cs) := HO3.out.below ((Below.refl _ _).drew)
    have HFd : Hid (Op mf mg 37 w1.heap.size w3.drew (.slice fa fl fc) fs) := HOF.out.below ((Below.refl _ _).drew)
    have HCd : Hid (w3.drew.cell? ⟨b, 2, none⟩ = some (.slice fa fl fc)) := HCELL.out
    obtain ⟨wd, hwd⟩ : ∃ W, w3.drew = W := ⟨_, rfl⟩
    rw [hwd] at HDd HOd HFd HCd ⊢
    clear hwd HD3 HO3 HOF HCELL
    refine anyZ_two 6 9 (by kernel_rfl) rfl rfl ?_ ?_
    · go_wp2_with (fail)
      refine (below_c _ _ _ _ _ HDd.out.dr (by omega)).mono ?_
      rintro e w4 ⟨kd, rfl, -, -, -, d4, g4⟩
      have HD4 : Hid (Dc w w4 g (.slice ca zl cc) zs) := HDd.out.draw d4 g4
      have HO4 : Hid (OwT w1.heap.size w4 (.slice (some ⟨b, 0, none⟩) N cap) lv cs) := HOd.out.draw g4 HWW.out.2
      have HF4 : Hid (Op mf mg 37 w1.heap.size w4 (.slice fa fl fc) fs) := HFd.out.draw g4 HWW.out.2
      have HC4 : Hid (w4.cell? ⟨b, 2, none⟩ = some (.slice fa fl fc)) := by
        show w4.cell? ⟨b, 2, none⟩ = _
        rw [World.cell?_of_block (w := wd) (g4.block b (block_lt_of_cell HCd.out) (fun e => hbg (Option.some.inj e)))]
        exact HCd.out
      clear d4 g4
      go_wp2
      refine ⟨HSI.out _ HC4.out, ?_⟩
      refine anyZ_one 9 (by kernel_rfl) rfl ?_
      go_wp2
      refine ⟨HSI.out _ HC4.out, ?_⟩
      refine anyZ_one 10 (by kernel_rfl) rfl ?_
      go_wp2
      refine ⟨HSI.out _ HC4.out, ?_⟩
      refine anyZ_one 11 (by kernel_rfl) rfl ?_
      go_wp2_with (fail)
      refine (below_c _ _ _ _ _ HD4.out.dr (by omega)).mono ?_
      rintro e w5 ⟨ot, rfl, -, -, -, d4, g4⟩
      have HD5 : Hid (Dc w w5 g (.slice ca zl cc) zs) := HD4.out.draw d4 g4
      have HO5 : Hid (OwT w1.heap.size w5 (.slice (some ⟨b, 0, none⟩) N cap) lv cs) := HO4.out.draw g4 HWW.out.2
      have HF5 : Hid (Op mf mg 37 w1.heap.size w5 (.slice fa fl fc) fs) := HF4.out.draw g4 HWW.out.2
      have HC5 : Hid (w5.cell? ⟨b, 2, none⟩ = some (.slice fa fl fc)) := by
        show w5.cell? ⟨b, 2, none⟩ = _
        rw [World.cell?_of_block (w := w4) (g4.block b (block_lt_of_cell HC4.out) (fun e => hbg (Option.some.inj e)))]
        exact HC4.out
      clear d4 g4 HD4 HO4 HF4
      go_wp2
      refine ⟨HSI.out _ HC5.out, ?_⟩
      refine anyZ_one 12 (by kernel_rfl) rfl ?_
      go_wp2
      refine ⟨HSI.out _ HC5.out, ?_⟩
      refine anyZ_one 13 (by kernel_rfl) rfl ?_
      obtain ⟨w6, hw6⟩ : ∃ W, w5.alloc (Obj.cells (H2 kd ot) 37) = W := ⟨_, rfl⟩
      obtain ⟨gb, hgb⟩ : ∃ k, w5.heap.size = k := ⟨_, rfl⟩
      have al : Below w5.heap.size w5 w6 := by rw [← hw6]; exact (Below.refl _ _).alloc (Nat.le_refl _) _
      have KB : Hid (Blk w6 gb (H2 kd ot) 37) := by rw [← hw6, ← hgb]; exact Blk.new _ _ _
      have HD6 : Hid (Dc w w6 g (.slice ca zl cc) zs) := HD5.out.below al
      have HO6 : Hid (OwT w1.heap.size w6 (.slice (some ⟨b, 0, none⟩) N cap) lv cs) := HO5.out.below al
      have HF6 : Hid (Op mf mg 37 w1.heap.size w6 (.slice fa fl fc) fs) := HF5.out.below al
      have HC6 : Hid (w6.cell? ⟨b, 2, none⟩ = some (.slice fa fl fc)) := by show w6.cell? ⟨b, 2, none⟩ = _; rw [al.cell (block_lt_of_cell HC5.out)]; exact HC5.out
      clear al
      go_wp2
      clear hw6 hgb
      refine ⟨HSI.out _ HC6.out, ?_⟩
      clear HD5 HO5 HF5
      refine anyZ_one 14 (by kernel_rfl) rfl ?_
      refine appNt rfl _ _ rfl w1.heap.size _ fs rfl HF6.out _ [(kd, ot)] rfl (Rp.one7 KB.out) (by have := HFL.out; simp; omega) (by have := (World.ownsRow.lt HO6.out.own b rfl); omega) ?_
      intro v7 w7 ho hg hob
      have hg' : w6.grownBy w7 (Value.slice fa fl fc).ownBlock := hg
      have HC7 : Hid (w7.cell? ⟨b, 2, none⟩ = some (.slice fa fl fc)) := by
        show w7.cell? ⟨b, 2, none⟩ = _
        rw [World.cell?_of_block (w := w6) (hg'.block b (block_lt_of_cell HC6.out) (fun e => by rcases own_tag HO6.out.own HF6.out (by decide) with q | q; simp [Value.ownBlock] at q; exact q e))]
        exact HC6.out
      have HD7 : Hid (Dc w w7 g (.slice ca zl cc) zs) := HD6.out.app (fun k e => Nat.le_trans HWW.out.1 (World.ownsRow.lt HF6.out k e).1) hg'
      obtain ⟨w8, hw8⟩ : ∃ W, w7.setCell ⟨b, 2, none⟩ v7 = W := ⟨_, rfl⟩
      have HOM := HO6.out.more (y := (kd, ot)) HNN.out hl0 (w1 := w7) (w2 := w8) (fv := v7) (by
          have e1 : cs.getD 0 sb0 = cs[0] := by rw [List.getD_eq_getElem?_getD, List.getElem?_eq_getElem hc0]; rfl
          rw [e1, HFS.out]; exact ho) (by rw [HFV.out]; exact hg') hw8 HWW.out.2
      obtain ⟨cs', hR8, hL8, hK8⟩ := HOM
      have HR8 : Hid ((∀ W, w8.grownBy W (some g) → RdS W (.slice (some ⟨b, 0, none⟩) N cap) cs') ∧ cs'.length ≤ 17 ∧ ∀ c ∈ cs', c.2.2.length ≤ 4) := ⟨hR8, by omega, hK8 3 HCS.out⟩
      have HD8 : Hid (Dc w w8 g (.slice ca zl cc) zs) := HD7.out.app (row := some b) (fun k e => by have h1 := (World.ownsRow.lt HO6.out.own b rfl).1; have h2 := HWW.out.1; have := Option.some.inj e; omega) (by rw [← hw8]; exact grown_set _ _ _ _)
      have hfz : w7.frozen? ⟨b, 2, none⟩ = false := by
        rcases (World.ownsRow.kept HO6.out.own hg' (by rcases own_tag HO6.out.own HF6.out (by decide) with q | q; exact .inl q; exact .inr q)).2 with ⟨q, -⟩ | ⟨k, cp, cur, q, -, hk, -⟩
        · cases q
        · injection q with q1; injection q1 with q2; injection q2 with q3; subst q3; exact Blk.frozen (w := w7) hk 2
      have hcc := HC7.out
      obtain ⟨va, vc, hv7, -⟩ := ho.rd
      obtain ⟨vl, hvl⟩ : ∃ k, (fs ++ [(kd, ot)]).length = k := ⟨_, rfl⟩
      rw [hvl] at hv7
      clear hvl
      subst hv7
      clear ho hg hob hg' hR8 hL8 hK8
      refine wpList_nil ?_
      refine ⟨fun _ => HSI.out _ HC7.out, ?_⟩
      refine anyZ_one 15 (by kernel_rfl) rfl ?_
      go_wp2
      skip
      refine anyZ_one 16 (by kernel_rfl) rfl ?_
      go_wp2
      skip
      refine anyZ_one 17 (by kernel_rfl) rfl ?_
      go_wp2
      refine anyZ_end (by kernel_rfl) ?_
      try rw [hw8]
      clear hw8
      go_wp2
      go_ret
      exact ⟨_, cs', rfl, HR8.out.1, HR8.out.2.1, HR8.out.2.2, HD8.out⟩
    · go_wp2
      refine ⟨HSI.out _ HCd.out, ?_⟩
      refine anyZ_two 6 10 (by kernel_rfl) rfl rfl ?_ ?_
      · go_wp2_with (fail)
        refine (below_c _ _ _ _ _ HDd.out.dr (by omega)).mono ?_
        rintro e w4 ⟨kd, rfl, -, -, -, d4, g4⟩
        have HD4 : Hid (Dc w w4 g (.slice ca zl cc) zs) := HDd.out.draw d4 g4
        have HO4 : Hid (OwT w1.heap.size w4 (.slice (some ⟨b, 0, none⟩) N cap) lv cs) := HOd.out.draw g4 HWW.out.2
        have HF4 : Hid (Op mf mg 37 w1.heap.size w4 (.slice fa fl fc) fs) := HFd.out.draw g4 HWW.out.2
        have HC4 : Hid (w4.cell? ⟨b, 2, none⟩ = some (.slice fa fl fc)) := by
          show w4.cell? ⟨b, 2, none⟩ = _
          rw [World.cell?_of_block (w := wd) (g4.block b (block_lt_of_cell HCd.out) (fun e => hbg (Option.some.inj e)))]
          exact HCd.out
        clear d4 g4
        go_wp2
        refine ⟨HSI.out _ HC4.out, ?_⟩
        refine anyZ_one 10 (by kernel_rfl) rfl ?_
        go_wp2
        refine ⟨HSI.out _ HC4.out, ?_⟩
        refine anyZ_one 11 (by kernel_rfl) rfl ?_
        go_wp2_with (fail)
        refine (below_c _ _ _ _ _ HD4.out.dr (by omega)).mono ?_
        rintro e w5 ⟨ot, rfl, -, -, -, d4, g4⟩
        have HD5 : Hid (Dc w w5 g (.slice ca zl cc) zs) := HD4.out.draw d4 g4
        have HO5 : Hid (OwT w1.heap.size w5 (.slice (some ⟨b, 0, none⟩) N cap) lv cs) := HO4.out.draw g4 HWW.out.2
        have HF5 : Hid (Op mf mg 37 w1.heap.size w5 (.slice fa fl fc) fs) := HF4.out.draw g4 HWW.out.2
        have HC5 : Hid (w5.cell? ⟨b, 2, none⟩ = some (.slice fa fl fc)) := by
          show w5.cell? ⟨b, 2, none⟩ = _
          rw [World.cell?_of_block (w := w4) (g4.block b (block_lt_of_cell HC4.out) (fun e => hbg (Option.some.inj e)))]
          exact HC4.out
        clear d4 g4 HD4 HO4 HF4
        go_wp2
        refine ⟨HSI.out _ HC5.out, ?_⟩
        refine anyZ_one 12 (by kernel_rfl) rfl ?_
        go_wp2
        refine ⟨HSI.out _ HC5.out, ?_⟩
        refine anyZ_one 13 (by kernel_rfl) rfl ?_
        obtain ⟨w6, hw6⟩ : ∃ W, w5.alloc (Obj.cells (H2 kd ot) 37) = W := ⟨_, rfl⟩
        obtain ⟨gb, hgb⟩ : ∃ k, w5.heap.size = k := ⟨_, rfl⟩
        have al : Below w5.heap.size w5 w6 := by rw [← hw6]; exact (Below.refl _ _).alloc (Nat.le_refl _) _
        have KB : Hid (Blk w6 gb (H2 kd ot) 37) := by rw [← hw6, ← hgb]; exact Blk.new _ _ _
        have HD6 : Hid (Dc w w6 g (.slice ca zl cc) zs) := HD5.out.below al
        have HO6 : Hid (OwT w1.heap.size w6 (.slice (some ⟨b, 0, none⟩) N cap) lv cs) := HO5.out.below al
        have HF6 : Hid (Op mf mg 37 w1.heap.size w6 (.slice fa fl fc) fs) := HF5.out.below al
        have HC6 : Hid (w6.cell? ⟨b, 2, none⟩ = some (.slice fa fl fc)) := by show w6.cell? ⟨b, 2, none⟩ = _; rw [al.cell (block_lt_of_cell HC5.out)]; exact HC5.out
        clear al
        go_wp2
        clear hw6 hgb
        refine ⟨HSI.out _ HC6.out, ?_⟩
        clear HD5 HO5 HF5
        refine anyZ_one 14 (by kernel_rfl) rfl ?_
        refine appNt rfl _ _ rfl w1.heap.size _ fs rfl HF6.out _ [(kd, ot)] rfl (Rp.one7 KB.out) (by have := HFL.out; simp; omega) (by have := (World.ownsRow.lt HO6.out.own b rfl); omega) ?_
        intro v7 w7 ho hg hob
        have hg' : w6.grownBy w7 (Value.slice fa fl fc).ownBlock := hg
        have HC7 : Hid (w7.cell? ⟨b, 2, none⟩ = some (.slice fa fl fc)) := by
          show w7.cell? ⟨b, 2, none⟩ = _
          rw [World.cell?_of_block (w := w6) (hg'.block b (block_lt_of_cell HC6.out) (fun e => by rcases own_tag HO6.out.own HF6.out (by decide) with q | q; simp [Value.ownBlock] at q; exact q e))]
          exact HC6.out
        have HD7 : Hid (Dc w w7 g (.slice ca zl cc) zs) := HD6.out.app (fun k e => Nat.le_trans HWW.out.1 (World.ownsRow.lt HF6.out k e).1) hg'
        obtain ⟨w8, hw8⟩ : ∃ W, w7.setCell ⟨b, 2, none⟩ v7 = W := ⟨_, rfl⟩
        have HOM := HO6.out.more (y := (kd, ot)) HNN.out hl0 (w1 := w7) (w2 := w8) (fv := v7) (by
            have e1 : cs.getD 0 sb0 = cs[0] := by rw [List.getD_eq_getElem?_getD, List.getElem?_eq_getElem hc0]; rfl
            rw [e1, HFS.out]; exact ho) (by rw [HFV.out]; exact hg') hw8 HWW.out.2
        obtain ⟨cs', hR8, hL8, hK8⟩ := HOM
        have HR8 : Hid ((∀ W, w8.grownBy W (some g) → RdS W (.slice (some ⟨b, 0, none⟩) N cap) cs') ∧ cs'.length ≤ 17 ∧ ∀ c ∈ cs', c.2.2.length ≤ 4) := ⟨hR8, by omega, hK8 3 HCS.out⟩
        have HD8 : Hid (Dc w w8 g (.slice ca zl cc) zs) := HD7.out.app (row := some b) (fun k e => by have h1 := (World.ownsRow.lt HO6.out.own b rfl).1; have h2 := HWW.out.1; have := Option.some.inj e; omega) (by rw [← hw8]; exact grown_set _ _ _ _)
        have hfz : w7.frozen? ⟨b, 2, none⟩ = false := by
          rcases (World.ownsRow.kept HO6.out.own hg' (by rcases own_tag HO6.out.own HF6.out (by decide) with q | q; exact .inl q; exact .inr q)).2 with ⟨q, -⟩ | ⟨k, cp, cur, q, -, hk, -⟩
          · cases q
          · injection q with q1; injection q1 with q2; injection q2 with q3; subst q3; exact Blk.frozen (w := w7) hk 2
        have hcc := HC7.out
        obtain ⟨va, vc, hv7, -⟩ := ho.rd
        obtain ⟨vl, hvl⟩ : ∃ k, (fs ++ [(kd, ot)]).length = k := ⟨_, rfl⟩
        rw [hvl] at hv7
        clear hvl
        subst hv7
        clear ho hg hob hg' hR8 hL8 hK8
        refine wpList_nil ?_
        refine ⟨fun _ => HSI.out _ HC7.out, ?_⟩
        refine anyZ_one 15 (by kernel_rfl) rfl ?_
        go_wp2
        skip
        refine anyZ_one 16 (by kernel_rfl) rfl ?_
        go_wp2
        skip
        refine anyZ_one 17 (by kernel_rfl) rfl ?_
        go_wp2
        refine anyZ_end (by kernel_rfl) ?_
        try rw [hw8]
        clear hw8
        go_wp2
        go_ret
        exact ⟨_, cs', rfl, HR8.out.1, HR8.out.2.1, HR8.out.2.2, HD8.out⟩
      · go_wp2
        refine ⟨HSI.out _ HCd.out, ?_⟩
        refine anyZ_one 6 (by kernel_rfl) rfl ?_
        go_wp2_with (fail)
        refine (below_c _ _ _ _ _ HDd.out.dr (by omega)).mono ?_
        rintro e w4 ⟨kd, rfl, -, -, -, d4, g4⟩
        have HD4 : Hid (Dc w w4 g (.slice ca zl cc) zs) := HDd.out.draw d4 g4
        have HO4 : Hid (OwT w1.heap.size w4 (.slice (some ⟨b, 0, none⟩) N cap) lv cs) := HOd.out.draw g4 HWW.out.2
        have HF4 : Hid (Op mf mg 37 w1.heap.size w4 (.slice fa fl fc) fs) := HFd.out.draw g4 HWW.out.2
        have HC4 : Hid (w4.cell? ⟨b, 2, none⟩ = some (.slice fa fl fc)) := by
          show w4.cell? ⟨b, 2, none⟩ = _
          rw [World.cell?_of_block (w := wd) (g4.block b (block_lt_of_cell HCd.out) (fun e => hbg (Option.some.inj e)))]
          exact HCd.out
        clear d4 g4
        go_wp2
        refine ⟨HSI.out _ HC4.out, ?_⟩
        refine anyZ_one 11 (by kernel_rfl) rfl ?_
        go_wp2_with (fail)
        refine (below_c _ _ _ _ _ HD4.out.dr (by omega)).mono ?_
        rintro e w5 ⟨ot, rfl, -, -, -, d4, g4⟩
        have HD5 : Hid (Dc w w5 g (.slice ca zl cc) zs) := HD4.out.draw d4 g4
        have HO5 : Hid (OwT w1.heap.size w5 (.slice (some ⟨b, 0, none⟩) N cap) lv cs) := HO4.out.draw g4 HWW.out.2
        have HF5 : Hid (Op mf mg 37 w1.heap.size w5 (.slice fa fl fc) fs) := HF4.out.draw g4 HWW.out.2
        have HC5 : Hid (w5.cell? ⟨b, 2, none⟩ = some (.slice fa fl fc)) := by
          show w5.cell? ⟨b, 2, none⟩ = _
          rw [World.cell?_of_block (w := w4) (g4.block b (block_lt_of_cell HC4.out) (fun e => hbg (Option.some.inj e)))]
          exact HC4.out
        clear d4 g4 HD4 HO4 HF4
        go_wp2
        refine ⟨HSI.out _ HC5.out, ?_⟩
        refine anyZ_one 12 (by kernel_rfl) rfl ?_
        go_wp2
        refine ⟨HSI.out _ HC5.out, ?_⟩
        refine anyZ_one 13 (by kernel_rfl) rfl ?_
        obtain ⟨w6, hw6⟩ : ∃ W, w5.alloc (Obj.cells (H2 kd ot) 37) = W := ⟨_, rfl⟩
        obtain ⟨gb, hgb⟩ : ∃ k, w5.heap.size = k := ⟨_, rfl⟩
        have al : Below w5.heap.size w5 w6 := by rw [← hw6]; exact (Below.refl _ _).alloc (Nat.le_refl _) _
        have KB : Hid (Blk w6 gb (H2 kd ot) 37) := by rw [← hw6, ← hgb]; exact Blk.new _ _ _
        have HD6 : Hid (Dc w w6 g (.slice ca zl cc) zs) := HD5.out.below al
        have HO6 : Hid (OwT w1.heap.size w6 (.slice (some ⟨b, 0, none⟩) N cap) lv cs) := HO5.out.below al
        have HF6 : Hid (Op mf mg 37 w1.heap.size w6 (.slice fa fl fc) fs) := HF5.out.below al
        have HC6 : Hid (w6.cell? ⟨b, 2, none⟩ = some (.slice fa fl fc)) := by show w6.cell? ⟨b, 2, none⟩ = _; rw [al.cell (block_lt_of_cell HC5.out)]; exact HC5.out
        clear al
        go_wp2
        clear hw6 hgb
        refine ⟨HSI.out _ HC6.out, ?_⟩
        clear HD5 HO5 HF5
        refine anyZ_one 14 (by kernel_rfl) rfl ?_
        refine appNt rfl _ _ rfl w1.heap.size _ fs rfl HF6.out _ [(kd, ot)] rfl (Rp.one7 KB.out) (by have := HFL.out; simp; omega) (by have := (World.ownsRow.lt HO6.out.own b rfl); omega) ?_
        intro v7 w7 ho hg hob
        have hg' : w6.grownBy w7 (Value.slice fa fl fc).ownBlock := hg
        have HC7 : Hid (w7.cell? ⟨b, 2, none⟩ = some (.slice fa fl fc)) := by
          show w7.cell? ⟨b, 2, none⟩ = _
          rw [World.cell?_of_block (w := w6) (hg'.block b (block_lt_of_cell HC6.out) (fun e => by rcases own_tag HO6.out.own HF6.out (by decide) with q | q; simp [Value.ownBlock] at q; exact q e))]
          exact HC6.out
        have HD7 : Hid (Dc w w7 g (.slice ca zl cc) zs) := HD6.out.app (fun k e => Nat.le_trans HWW.out.1 (World.ownsRow.lt HF6.out k e).1) hg'
        obtain ⟨w8, hw8⟩ : ∃ W, w7.setCell ⟨b, 2, none⟩ v7 = W := ⟨_, rfl⟩
        have HOM := HO6.out.more (y := (kd, ot)) HNN.out hl0 (w1 := w7) (w2 := w8) (fv := v7) (by
            have e1 : cs.getD 0 sb0 = cs[0] := by rw [List.getD_eq_getElem?_getD, List.getElem?_eq_getElem hc0]; rfl
            rw [e1, HFS.out]; exact ho) (by rw [HFV.out]; exact hg') hw8 HWW.out.2
        obtain ⟨cs', hR8, hL8, hK8⟩ := HOM
        have HR8 : Hid ((∀ W, w8.grownBy W (some g) → RdS W (.slice (some ⟨b, 0, none⟩) N cap) cs') ∧ cs'.length ≤ 17 ∧ ∀ c ∈ cs', c.2.2.length ≤ 4) := ⟨hR8, by omega, hK8 3 HCS.out⟩
        have HD8 : Hid (Dc w w8 g (.slice ca zl cc) zs) := HD7.out.app (row := some b) (fun k e => by have h1 := (World.ownsRow.lt HO6.out.own b rfl).1; have h2 := HWW.out.1; have := Option.some.inj e; omega) (by rw [← hw8]; exact grown_set _ _ _ _)
        have hfz : w7.frozen? ⟨b, 2, none⟩ = false := by
          rcases (World.ownsRow.kept HO6.out.own hg' (by rcases own_tag HO6.out.own HF6.out (by decide) with q | q; exact .inl q; exact .inr q)).2 with ⟨q, -⟩ | ⟨k, cp, cur, q, -, hk, -⟩
          · cases q
          · injection q with q1; injection q1 with q2; injection q2 with q3; subst q3; exact Blk.frozen (w := w7) hk 2
        have hcc := HC7.out
        obtain ⟨va, vc, hv7, -⟩ := ho.rd
        obtain ⟨vl, hvl⟩ : ∃ k, (fs ++ [(kd, ot)]).length = k := ⟨_, rfl⟩
        rw [hvl] at hv7
        clear hvl
        subst hv7
        clear ho hg hob hg' hR8 hL8 hK8
        refine wpList_nil ?_
        refine ⟨fun _ => HSI.out _ HC7.out, ?_⟩
        refine anyZ_one 15 (by kernel_rfl) rfl ?_
        go_wp2
        skip
        refine anyZ_one 16 (by kernel_rfl) rfl ?_
        go_wp2
        skip
        refine anyZ_one 17 (by kernel_rfl) rfl ?_
        go_wp2
        refine anyZ_end (by kernel_rfl) ?_
        try rw [hw8]
        clear hw8
        go_wp2
        go_ret
        exact ⟨_, cs', rfl, HR8.out.1, HR8.out.2.1, HR8.out.2.2, HD8.out⟩
  by_cases q1 : t = 1
  · have e0 : (t == 0) = false := by simp [q0]
    have e1 : (t == 1) = true := by simp [q1]
    clear q0 q1
    go_wp2_with (fail)
    refine (below_c _ _ _ _ _ HD3.out.dr (by omega)).mono ?_
    rintro e w4 ⟨y, rfl, y0, y1, -, d4, g4⟩
    have y1' := y1 (by omega)
    have HD4 : Hid (Dc w w4 g (.slice ca zl cc) zs) := HD3.out.draw d4 g4
    have HO4 : Hid (OwT w1.heap.size w4 (.slice (some ⟨b, 0, none⟩) N cap) lv cs) := HO3.out.draw g4 HWW.out.2
    clear d4 g4 HO3 HD3 y1
    obtain ⟨M, hM⟩ : ∃ M : Nat, 16 - (N : Int) + y = M := ⟨(16 - (N : Int) + y).toNat, by omega⟩
    have hM1 : 1 ≤ M ∧ M + N ≤ 17 := by omega
    have HM : Hid (16 - (N : Int) + y = M) := hM
    have HMM : Hid (1 ≤ M ∧ M + N ≤ 17) := hM1
    have HNP : Hid (0 < cs.length ∧ cs.length ≤ 1000) := by have := HNN.out; show _ ∧ _; omega
    have HSZ : Hid (w1.heap.size ≤ w4.heap.size) := by
      have := (World.ownsRow.lt HO4.out.own b rfl); show _ ≤ _; omega
    clear hM hM1
    go_wp2_with (at_builtin; refine appM rfl _ _ rfl w1.heap.size _ cs lv rfl HO4.out M (by rw [← HM.out]; rfl) HNP.out.1 (by have := HMM.out; omega) (by have := HMM.out; omega) HNP.out.2 HSZ.out ?_)
    intro v' w5 ho hg
    have HD5 : Hid (Dc w w5 g (.slice ca zl cc) zs) := HD4.out.app (fun k e => Nat.le_trans HWW.out.1 (World.ownsRow.lt HO4.out.own k e).1) hg
    have HR5 : Hid (∀ W, w5.grownBy W (some g) → RdS W v' (cs ++ List.replicate M sb0)) := fun W hW => (ho.draw hW HWW.out.2).s.rd
    have HL5 : Hid ((cs ++ List.replicate M sb0).length ≤ 17 ∧ ∀ c ∈ cs ++ List.replicate M sb0, c.2.2.length ≤ 4) := by
      refine ⟨by have h1 := HMM.out; have h2 := HNN.out; rw [List.length_append, List.length_replicate]; omega, fun c hc => ?_⟩
      rcases List.mem_append.1 hc with q | q
      · have := HCS.out c q; omega
      · have := List.eq_of_mem_replicate q; subst this; simp
    clear ho hg
    go_wp2
    go_ret
    exact ⟨_, _, rfl, HR5.out, HL5.out.1, HL5.out.2, HD5.out⟩
  have e0 : (t == 0) = false := by simp [q0]
  have e1 : (t == 1) = false := by simp [q1]
  have HR3 : Hid (∀ W, w3.grownBy W (some g) → RdS W (.slice (some ⟨b, 0, none⟩) N cap) cs) := fun W hW => (HO3.out.draw hW HWW.out.2).s.rd
  have HL3 : Hid (cs.length ≤ 17 ∧ ∀ c ∈ cs, c.2.2.length ≤ 4) := ⟨by have := HNN.out; omega, fun c hc => by have := HCS.out c hc; omega⟩
  by_cases q2 : t = 2
  · have e2 : (t == 2) = true := by simp [q2]
    clear q0 q1 q2
    go_wp2
    go_ret
    exact ⟨_, [], rfl, fun W _ => ⟨[], rfl, ⟨none, 0, rfl, by simp, by simp, .inl rfl⟩, fun i hi => by simp at hi⟩, by simp, fun c hc => by simp at hc, HD3.out⟩
  · have e2 : (t == 2) = false := by simp [q2]
    clear q0 q1 q2
    go_wp2
    go_ret
    exact ⟨_, cs, rfl, HR3.out, HL3.out.1, HL3.out.2, HD3.out⟩
end Go.Proofs.Ytfaflnhembceoaa
