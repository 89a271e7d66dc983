/- The program's chain of moves; no condition. -/
import Derived.Test.YtikhfeafbckjlaaDoorFCs
namespace Go.Proofs.YtikhfeafbckjlaaDoor
open Go.RowKit Go.ChangeShapes Go.WideShapes Go.ChangeAt
set_option linter.unusedVariables false
set_option linter.unusedSimpArgs false
set_option maxRecDepth 8000
set_option maxHeartbeats 12800000 in
theorem chainOf_c (s p m : Int) (v : Value) (ps : Tri) (c0 x0 y0 z0 a b h t : Int) (o : Bool) (w : World) (hr : Rt w v ps) (hR : InR ps) (hp1 : 1 ≤ p) (hp4 : p ≤ 4) (hlen : ps.length ≤ 100000) (hN : NoP w) (H : ChOk p ps h t o c0) (h0 : pV ps c0 = (x0, y0, z0)) (hb0 : 0 ≤ b) (hab : (o = true ∧ h = a ∧ t = b) ∨ (o = false ∧ h = b ∧ t = a)) :
   Calls Tryd.prog 64 #[.agg (F4 s p m v), .agg (P3 x0 y0 z0), .int .i64 a, .int .i64 b] w (ChR p ps h t o c0 w) := by
  obtain ⟨a0, cap0, rfl, h1, h2, h3⟩ := id hr
  unfold maxLen at h2
  have HH : Hid (ChOk p ps h t o c0) := H
  have HR : Hid (InR ps) := hR
  have HRt : Hid (Rt w (.slice a0 ps.length cap0) ps) := hr
  have hp0 : p ≠ 0 := by omega
  have hNl := hN.lt
  have HNP : Hid (∀ W, Below w.heap.size w W → NoP W) := fun W hb => hN.below hb hNl
  have bb : Below w.heap.size w (w.alloc (Obj.cells (F4 s p m (.slice a0 ps.length cap0)) 26)) := (Below.refl _ _).alloc (Nat.le_refl _) _
  obtain ⟨W0, hW0⟩ : ∃ W0, (w.alloc (Obj.cells (F4 s p m (.slice a0 ps.length cap0)) 26)).alloc (Obj.cells (P3 x0 y0 z0) 35) = W0 := ⟨_, rfl⟩
  have S0 : Hid (Cs s p m (.slice a0 ps.length cap0) ps h t o c0 w W0 0 (.slice none 0 0)) := by
    have ba : Below (w.alloc (Obj.cells (F4 s p m (.slice a0 ps.length cap0)) 26)).heap.size (w.alloc (Obj.cells (F4 s p m (.slice a0 ps.length cap0)) 26)) W0 := hW0 ▸ (Below.refl _ _).alloc (Nat.le_refl _) _
    refine ⟨(Blk.new w _ _).below ba (by simp), ?_, World.ownsRow_nil _ _ _ _, belowCall bb ba bb.size, fun i hi => by omega⟩
    show Blk W0 (w.heap.size + 1) (P3 (pV ps c0).1 (pV ps c0).2.1 (pV ps c0).2.2) 35
    rw [h0, ← hW0]
    exact Blk.newAt _ (w.heap.size + 1) _ 35 (by simp)
  have HW0 : Hid ((w.alloc (Obj.cells (F4 s p m (.slice a0 ps.length cap0)) 26)).alloc (Obj.cells (P3 x0 y0 z0) 35) = W0) := hW0
  have H00 : Hid (pV ps c0 = (x0, y0, z0)) := h0
  have HAB : Hid ((o = true ∧ h = a ∧ t = b) ∨ (o = false ∧ h = b ∧ t = a)) := hab
  clear hr hR H bb hW0 h3 hN hab
  go_enter Tryd.func64, Tryd.ntmps64
  go_wp2
  rw [HW0.out]
  obtain ⟨J, hJ⟩ : ∃ J : Nat → Act → World → Prop, J = (fun l A W => ∃ (k : Nat) (mv : Value) (u10 u11 u12 u13 u14 u15 u16 u17 u18 u19 u20 u21 u22 u23 u24 u25 u26 u27 u28 u29 u30 u31 u32 u33 u34 u35 u36 u37 u38 u39 u40 u41 u42 u43 u44 u45 u46 u47 u48 u49 u50 u51 : Value), A = ⟨#[.agg (F4 s p m (.slice a0 ps.length cap0)), .agg (P3 x0 y0 z0), .int .i64 a, .int .i64 b, .pointer (some ⟨w.heap.size, 0, none⟩), .pointer (some ⟨w.heap.size + 1, 0, none⟩), undef, undef, .slice none 0 0, mv, u10, u11, u12, u13, u14, u15, u16, u17, u18, u19, u20, u21, u22, u23, u24, u25, u26, u27, u28, u29, u30, u31, u32, u33, u34, u35, u36, u37, u38, u39, u40, u41, u42, u43, u44, u45, u46, u47, u48, u49, u50, u51], []⟩ ∧ Cs s p m (.slice a0 ps.length cap0) ps h t o c0 w W k mv ∧ ((l = 1 ∧ par k o (!o) = true) ∨ (l = 0 ∧ par k o (!o) = false))) := ⟨_, rfl⟩
  have HJ : Hid (J = (fun l A W => ∃ (k : Nat) (mv : Value) (u10 u11 u12 u13 u14 u15 u16 u17 u18 u19 u20 u21 u22 u23 u24 u25 u26 u27 u28 u29 u30 u31 u32 u33 u34 u35 u36 u37 u38 u39 u40 u41 u42 u43 u44 u45 u46 u47 u48 u49 u50 u51 : Value), A = ⟨#[.agg (F4 s p m (.slice a0 ps.length cap0)), .agg (P3 x0 y0 z0), .int .i64 a, .int .i64 b, .pointer (some ⟨w.heap.size, 0, none⟩), .pointer (some ⟨w.heap.size + 1, 0, none⟩), undef, undef, .slice none 0 0, mv, u10, u11, u12, u13, u14, u15, u16, u17, u18, u19, u20, u21, u22, u23, u24, u25, u26, u27, u28, u29, u30, u31, u32, u33, u34, u35, u36, u37, u38, u39, u40, u41, u42, u43, u44, u45, u46, u47, u48, u49, u50, u51], []⟩ ∧ Cs s p m (.slice a0 ps.length cap0) ps h t o c0 w W k mv ∧ ((l = 1 ∧ par k o (!o) = true) ∨ (l = 0 ∧ par k o (!o) = false)))) := hJ
  clear hJ
  refine scope_labels J (fun _ A _ => ps.length + 1 - slen (A.tmps.getD 9 undef)) ?_ ?_
  · have pb := S0.out.pb
    have e00 : pV ps (stt p ps h t o c0 0) = (x0, y0, z0) := h0
    rw [e00] at pb
    have p0 := pb.cell 0
    have p1 := pb.cell 1
    have p2 := pb.cell 2
    simp at p0 p1 p2
    clear pb e00 h0
    by_cases hzb : z0 = b
    · have hz2 : (z0 == b) = true := by simp [hzb]
      have HZB : Hid (z0 = b) := hzb
      clear hzb
      have hph : par 0 o (!o) = false := by
        rcases HAB.out with ⟨rfl, rfl, rfl⟩ | ⟨rfl, -, -⟩
        · exfalso
          by_cases hc : c0 < 0
          · have := H00.out; rw [pV, if_pos hc] at this; simp at this; have := HZB.out; omega
          · have := H00.out; rw [pV, if_neg hc] at this
            have e := (HH.out.start (by omega)).2.1
            rw [this] at e; exact HH.out.ne (e.symm.trans HZB.out)
        · rfl
      have HPH : Hid (par 0 o (!o) = false) := hph
      clear hph
      go_wp2
      go_step3
      exact (show J 0 _ _ from by rw [HJ.out]; exact ⟨0, _, _, _, _, _, _, _, _, _, _, _, _, _, _, _, _, _, _, _, _, _, _, _, _, _, _, _, _, _, _, _, _, _, _, _, _, _, _, _, _, _, _, _, rfl, S0.out, .inr ⟨rfl, HPH.out⟩⟩)
    · have hz2 : (z0 == b) = false := by simp [hzb]
      have HZB : Hid (¬ z0 = b) := hzb
      clear hzb
      cases ho : o with
      | false =>
        subst ho
        have hneg : c0 < 0 := by
          refine Classical.byContradiction fun hc => HZB.out ?_
          rcases HAB.out with ⟨h, -, -⟩ | ⟨-, rfl, rfl⟩
          · cases h
          · have := H00.out
            rw [pV, if_neg hc] at this
            have e := (HH.out.start (by omega)).2.1
            rw [this] at e; exact e
        obtain ⟨rfl, rfl, rfl⟩ : x0 = -1 ∧ y0 = -1 ∧ z0 = -1 := by have := H00.out; rw [pV, if_pos hneg] at this; simp at this; omega
        have hde : decide (((-1 : Int), (-1 : Int), (-1 : Int)) = (-1, -1, -1)) = true := by simp
        have hfin : ChR p ps h t false c0 w (.returned (.slice none 0 0)) W0 := ⟨_, 0, rfl, hneg, S0.out.ge, S0.out.own.mono (by omega), S0.out.bel⟩
        have HF : Hid (ChR p ps h t false c0 w (.returned (.slice none 0 0)) W0) := hfin
        obtain ⟨g0, g1, g2⟩ := HNP.out _ S0.out.bel
        clear hfin
        go_wp2
        go_step3
        go_wp2_with (refine eqlList rfl _ _ rfl (-1) (-1) (-1) (-1) (-1) (-1) rfl rfl ?_; rw [hde])
        show bodyPost Tryd.prog Tryd.f64 (ChR p ps h t false c0 w) Exit.ret _ _
        go_ret
        exact HF.out
      | true =>
        subst ho
        clear p0 p1 p2
        have pb := S0.out.pb
        have e00 : pV ps (stt p ps h t true c0 0) = (x0, y0, z0) := H00.out
        rw [e00] at pb
        have p2 := pb.cell 2
        simp at p2
        clear pb e00
        go_wp2
        go_step3
        obtain ⟨mv0, hmv⟩ : ∃ mv0, Value.slice none 0 0 = mv0 := ⟨_, rfl⟩
        obtain ⟨k0, hk0⟩ : ∃ k0 : Nat, k0 = 0 := ⟨_, rfl⟩
        have Sm : Hid (Cs s p m (.slice a0 ps.length cap0) ps h t true c0 w W0 k0 mv0) := by have := S0.out; rw [hmv, ← hk0] at this; exact this
        have HPHA : Hid (par k0 true (!true) = true) := (by rw [hk0]; rfl : par k0 true (!true) = true)
        have HPHB : Hid (par (k0 + 1) true (!true) = false) := (by rw [par_not, HPHA.out]; rfl : par (k0 + 1) true (!true) = false)
        have HPHC : Hid (par (k0 + 1 + 1) true (!true) = true) := (by rw [par_not, HPHB.out]; rfl : par (k0 + 1 + 1) true (!true) = true)
        clear hk0
        rw (occs := .pos [2]) [hmv]
        clear p2 hmv S0
        obtain ⟨avA, cvA, hvA, l1A, l2A⟩ := own_form2 Sm.out.own
        rw [mvL_len] at hvA l1A
        subst hvA
        unfold maxLen at l2A
        obtain ⟨⟨xA, yA, zA⟩, hxA⟩ : ∃ q, pV ps (stt p ps h t true c0 k0) = q := ⟨_, rfl⟩
        have pbA := Sm.out.pb
        rw [hxA] at pbA
        have p0A := pbA.cell 0
        have p1A := pbA.cell 1
        have p2A := pbA.cell 2
        simp at p0A p1A p2A
        obtain ⟨g0A, g1A, g2A⟩ := HNP.out _ Sm.out.bel
        have lwA : w.heap.size + 1 < W0.heap.size := pbA.lt
        clear pbA
        by_cases hnegA : stt p ps h t true c0 k0 < 0
        · obtain ⟨rfl, rfl, rfl⟩ : xA = -1 ∧ yA = -1 ∧ zA = -1 := by rw [pV, if_pos hnegA] at hxA; simp at hxA; omega
          have hde : decide (((-1 : Int), (-1 : Int), (-1 : Int)) = (-1, -1, -1)) = true := by simp
          have hfin : ChR p ps h t true c0 w (.returned (.slice avA k0 cvA)) W0 := ⟨_, k0, rfl, hnegA, Sm.out.ge, Sm.out.own.mono (by omega), Sm.out.bel⟩
          have HF : Hid (ChR p ps h t true c0 w (.returned (.slice avA k0 cvA)) W0) := hfin
          clear hfin hxA
          go_wp2_with (refine eqlList rfl _ _ rfl (-1) (-1) (-1) (-1) (-1) (-1) rfl rfl ?_; rw [hde])
          show bodyPost Tryd.prog Tryd.f64 (ChR p ps h t true c0 w) Exit.ret _ _
          go_ret
          exact HF.out
        · have hposA : 0 ≤ stt p ps h t true c0 k0 := by omega
          have hkbA := stt_bound HH.out k0 hposA
          have hmemA : (xA, yA, zA) ∈ ps := by
            have i1 := (stt_in HH.out k0 hposA).1
            have hxa : pAt ps (stt p ps h t true c0 k0) = (xA, yA, zA) := by rw [pV, if_neg hnegA] at hxA; exact hxA
            rw [← hxa, pAt_eq i1]; exact List.getElem_mem _
          obtain ⟨⟨x1A, x2A⟩, ⟨y1A, y2A⟩⟩ := HR.out _ hmemA
          dsimp only at x1A x2A y1A y2A
          have hdeA : decide ((xA, yA, zA) = ((-1 : Int), (-1 : Int), (-1 : Int))) = false := by simp; omega
          obtain ⟨W1A, hW1A⟩ : ∃ W1, W0.alloc (Obj.cells #[.int .i64 xA, .int .i64 b] 74) = W1 := ⟨_, rfl⟩
          have b1A : Below W0.heap.size W0 W1A := hW1A ▸ (Below.refl _ _).alloc (Nat.le_refl _) _
          have kmA : Blk W1A W0.heap.size #[.int .i64 xA, .int .i64 b] 74 := hW1A ▸ Blk.new _ _ _
          have HRLA : Hid (Rp mf mg W1A (.slice (some ⟨W0.heap.size, 0, none⟩) 1 1) [(xA, b)]) := by
            refine ⟨_, 1, rfl, by simp, by simp [maxLen], .inr ⟨_, 0, rfl, fun i hi => ?_⟩⟩
            obtain rfl : i = 0 := Nat.lt_one_iff.1 hi
            exact ⟨kmA.cell 0, kmA.cell 1⟩
          have S1A : Hid (Cs s p m (.slice a0 ps.length cap0) ps h t true c0 w W1A k0 (.slice avA k0 cvA)) := Sm.out.below b1A
          have HW1A : Hid (W0.alloc (Obj.cells #[.int .i64 xA, .int .i64 b] 74) = W1A) := hW1A
          have hs1A : w.heap.size + 2 ≤ W1A.heap.size := by have := b1A.size; omega
          have HXA : Hid (pV ps (stt p ps h t true c0 k0) = (xA, yA, zA) ∧ par k0 t h = b) := ⟨hxA, (th_of (a := a) (b := b) (h := h) (t := t) (o := true) (by simpa using HAB.out) k0).1 HPHA.out⟩
          clear b1A kmA hW1A hxA hmemA
          go_wp2_with (first | (refine eqlList rfl _ _ rfl xA yA zA (-1) (-1) (-1) rfl rfl ?_; rw [hdeA]) | (at_builtin; rw [HW1A.out]; refine appMv rfl _ _ rfl (w.heap.size + 2) _ (mvL p ps h t true c0 k0) rfl S1A.out.own _ [(xA, b)] rfl HRLA.out (by rw [mvL_len]; simp; omega) hs1A ?_))
          intro nvA w2A ho2A hg2A hv2A
          obtain ⟨⟨f2A, q2A, b2A⟩, hnextA⟩ := S1A.out.next HXA.out.1 hposA HXA.out.2 ho2A hg2A
          have HNXA : Hid (∀ (W3 : World) (q : Int × Int × Int), Below w2A.heap.size w2A W3 → q = pV ps (stt p ps h t true c0 (k0 + 1)) → Cs s p m (.slice a0 ps.length cap0) ps h t true c0 w (((W3.setCell ⟨w.heap.size + 1, 0, none⟩ (.int .i64 q.1)).setCell ⟨w.heap.size + 1, 1, none⟩ (.int .i64 q.2.1)).setCell ⟨w.heap.size + 1, 2, none⟩ (.int .i64 q.2.2)) (k0 + 1) nvA) := hnextA
          have HFBA : Hid (Blk w2A w.heap.size (F4 s p m (.slice a0 ps.length cap0)) 26 ∧ Blk w2A (w.heap.size + 1) (P3 xA yA zA) 35 ∧ Below w.heap.size w w2A) := ⟨f2A, q2A, b2A⟩
          obtain ⟨S, hS⟩ : ∃ S : World → Prop, ∀ W, S W ↔ Below w2A.heap.size w2A W := ⟨_, fun _ => Iff.rfl⟩
          have s0 : ∀ W : At S, W.wd.cell? ⟨w.heap.size, 0, none⟩ = some (.int .i64 s) := fun W => (((hS _).1 W.ok).cell HFBA.out.1.lt).trans (HFBA.out.1.cell 0)
          have s1 : ∀ W : At S, W.wd.cell? ⟨w.heap.size, 1, none⟩ = some (.int .i64 p) := fun W => (((hS _).1 W.ok).cell HFBA.out.1.lt).trans (HFBA.out.1.cell 1)
          have s2 : ∀ W : At S, W.wd.cell? ⟨w.heap.size, 2, none⟩ = some (.int .i64 m) := fun W => (((hS _).1 W.ok).cell HFBA.out.1.lt).trans (HFBA.out.1.cell 2)
          have s3 : ∀ W : At S, W.wd.cell? ⟨w.heap.size, 3, none⟩ = some (.slice a0 ps.length cap0) := fun W => (((hS _).1 W.ok).cell HFBA.out.1.lt).trans (HFBA.out.1.cell 3)
          have s4 : ∀ W : At S, W.wd.cell? ⟨w.heap.size + 1, 0, none⟩ = some (.int .i64 xA) := fun W => (((hS _).1 W.ok).cell HFBA.out.2.1.lt).trans (HFBA.out.2.1.cell 0)
          have HSI : Hid (∀ W, Below w2A.heap.size w2A W → S W) := fun W h => (hS W).2 h
          have HSD : Hid (S w2A.drew) := HSI.out _ (Below.refl _ _).drew
          have ne : Nonempty (At S) := ⟨⟨_, HSD.out⟩⟩
          clear hS f2A q2A b2A hnextA ho2A hg2A hv2A p0A p1A p2A g0A g1A g2A HRLA HW1A S1A Sm
          go_wp2
          refine region_mixA [true, true, true, true, true, true, true, false, false] 8 1 S (by kernel_rfl) rfl (by kernel_rfl) (fun _ _ _ _ _ h => h) HSD.out ?_
          simp only [selT, selF]
          repeat (go_big_quiet_step (fail))
          refine wpQuiet_nil ?_
          clear s0 s1 s2 s3 s4 ne HSD
          refine tail_step ?_
          go_wp2_with (fail)
          refine (pathOutOf_v s p m (xA / p) b _ ps _ (HRt.out.below (belowCall HFBA.out.2.2 (Below.refl _ _).drew HFBA.out.2.2.size)) HR.out hp1 hp4 (HNP.out _ (belowCall HFBA.out.2.2 (Below.refl _ _).drew HFBA.out.2.2.size))).mono ?_
          rintro e w3A ⟨rfl, b3A⟩
          have b3' : Below w2A.heap.size w2A w3A := belowCall (Below.refl _ _).drew b3A (Nat.le_refl _)
          obtain ⟨⟨qxA, qyA, qzA⟩, hqA⟩ : ∃ q, fstP (inQ p (xA / p) b) ps = q := ⟨_, rfl⟩
          rw [hqA]
          have hqn : (qxA, qyA, qzA) = pV ps (stt p ps h t true c0 (k0 + 1)) := by
            have e1 : pAt ps (stt p ps h t true c0 k0) = (xA, yA, zA) := by have := HXA.out.1; rw [pV, if_neg (by omega)] at this; exact this
            rw [← hqA, fstP_pV, stt_nxt hposA, e1, HXA.out.2, HPHA.out]; rfl
          have hS4 := HNXA.out w3A (qxA, qyA, qzA) b3' hqn
          dsimp only at hS4
          obtain ⟨W4A, hW4A⟩ : ∃ W4, ((w3A.setCell ⟨w.heap.size + 1, 0, none⟩ (.int .i64 qxA)).setCell ⟨w.heap.size + 1, 1, none⟩ (.int .i64 qyA)).setCell ⟨w.heap.size + 1, 2, none⟩ (.int .i64 qzA) = W4 := ⟨_, rfl⟩
          rw [hW4A] at hS4
          have S4A : Hid (Cs s p m (.slice a0 ps.length cap0) ps h t true c0 w W4A (k0 + 1) nvA) := hS4
          have HW4A : Hid (((w3A.setCell ⟨w.heap.size + 1, 0, none⟩ (.int .i64 qxA)).setCell ⟨w.heap.size + 1, 1, none⟩ (.int .i64 qyA)).setCell ⟨w.heap.size + 1, 2, none⟩ (.int .i64 qzA) = W4A) := hW4A
          have HS3 : Hid (S w3A) := HSI.out _ b3'
          have pb3 : Blk w3A (w.heap.size + 1) (P3 xA yA zA) 35 := HFBA.out.2.1.below b3' HFBA.out.2.1.lt
          have t0 := pb3.cell 0
          have t1 := pb3.cell 1
          have t2 := pb3.cell 2
          have e0 := pb3.frozen 0
          have e1 := pb3.frozen 1
          have e2 := pb3.frozen 2
          simp at t0 t1 t2
          clear pb3 hS4 hW4A hqn hqA b3A b3' HFBA HNXA
          go_wp2
          refine ⟨HS3.out, tail_end ?_⟩
          clear HS3 HSI
          go_wp2
          rw [HW4A.out]
          clear t0 t1 t2 e0 e1 e2 HW4A
          go_step3
          obtain ⟨avB, cvB, hvB, l1B, l2B⟩ := own_form2 S4A.out.own
          rw [mvL_len] at hvB l1B
          subst hvB
          unfold maxLen at l2B
          obtain ⟨⟨xB, yB, zB⟩, hxB⟩ : ∃ q, pV ps (stt p ps h t true c0 (k0 + 1)) = q := ⟨_, rfl⟩
          have pbB := S4A.out.pb
          rw [hxB] at pbB
          have p0B := pbB.cell 0
          have p1B := pbB.cell 1
          have p2B := pbB.cell 2
          simp at p0B p1B p2B
          obtain ⟨g0B, g1B, g2B⟩ := HNP.out _ S4A.out.bel
          have lwB : w.heap.size + 1 < W4A.heap.size := pbB.lt
          clear pbB
          by_cases hnegB : stt p ps h t true c0 (k0 + 1) < 0
          · obtain ⟨rfl, rfl, rfl⟩ : xB = -1 ∧ yB = -1 ∧ zB = -1 := by rw [pV, if_pos hnegB] at hxB; simp at hxB; omega
            have hde : decide (((-1 : Int), (-1 : Int), (-1 : Int)) = (-1, -1, -1)) = true := by simp
            have hfin : ChR p ps h t true c0 w (.returned (.slice avB (k0 + 1) cvB)) W4A := ⟨_, (k0 + 1), rfl, hnegB, S4A.out.ge, S4A.out.own.mono (by omega), S4A.out.bel⟩
            have HF : Hid (ChR p ps h t true c0 w (.returned (.slice avB (k0 + 1) cvB)) W4A) := hfin
            clear hfin hxB
            go_wp2_with (refine eqlList rfl _ _ rfl (-1) (-1) (-1) (-1) (-1) (-1) rfl rfl ?_; rw [hde])
            show bodyPost Tryd.prog Tryd.f64 (ChR p ps h t true c0 w) Exit.ret _ _
            go_ret
            exact HF.out
          · have hposB : 0 ≤ stt p ps h t true c0 (k0 + 1) := by omega
            have hkbB := stt_bound HH.out (k0 + 1) hposB
            have hmemB : (xB, yB, zB) ∈ ps := by
              have i1 := (stt_in HH.out (k0 + 1) hposB).1
              have hxa : pAt ps (stt p ps h t true c0 (k0 + 1)) = (xB, yB, zB) := by rw [pV, if_neg hnegB] at hxB; exact hxB
              rw [← hxa, pAt_eq i1]; exact List.getElem_mem _
            obtain ⟨⟨x1B, x2B⟩, ⟨y1B, y2B⟩⟩ := HR.out _ hmemB
            dsimp only at x1B x2B y1B y2B
            have hdeB : decide ((xB, yB, zB) = ((-1 : Int), (-1 : Int), (-1 : Int))) = false := by simp; omega
            obtain ⟨W1B, hW1B⟩ : ∃ W1, W4A.alloc (Obj.cells #[.int .i64 xB, .int .i64 a] 74) = W1 := ⟨_, rfl⟩
            have b1B : Below W4A.heap.size W4A W1B := hW1B ▸ (Below.refl _ _).alloc (Nat.le_refl _) _
            have kmB : Blk W1B W4A.heap.size #[.int .i64 xB, .int .i64 a] 74 := hW1B ▸ Blk.new _ _ _
            have HRLB : Hid (Rp mf mg W1B (.slice (some ⟨W4A.heap.size, 0, none⟩) 1 1) [(xB, a)]) := by
              refine ⟨_, 1, rfl, by simp, by simp [maxLen], .inr ⟨_, 0, rfl, fun i hi => ?_⟩⟩
              obtain rfl : i = 0 := Nat.lt_one_iff.1 hi
              exact ⟨kmB.cell 0, kmB.cell 1⟩
            have S1B : Hid (Cs s p m (.slice a0 ps.length cap0) ps h t true c0 w W1B (k0 + 1) (.slice avB (k0 + 1) cvB)) := S4A.out.below b1B
            have HW1B : Hid (W4A.alloc (Obj.cells #[.int .i64 xB, .int .i64 a] 74) = W1B) := hW1B
            have hs1B : w.heap.size + 2 ≤ W1B.heap.size := by have := b1B.size; omega
            have HXB : Hid (pV ps (stt p ps h t true c0 (k0 + 1)) = (xB, yB, zB) ∧ par (k0 + 1) t h = a) := ⟨hxB, (th_of (a := a) (b := b) (h := h) (t := t) (o := true) (by simpa using HAB.out) (k0 + 1)).2 HPHB.out⟩
            clear b1B kmB hW1B hxB hmemB
            go_wp2_with (first | (refine eqlList rfl _ _ rfl xB yB zB (-1) (-1) (-1) rfl rfl ?_; rw [hdeB]) | (at_builtin; rw [HW1B.out]; refine appMv rfl _ _ rfl (w.heap.size + 2) _ (mvL p ps h t true c0 (k0 + 1)) rfl S1B.out.own _ [(xB, a)] rfl HRLB.out (by rw [mvL_len]; simp; omega) hs1B ?_))
            intro nvB w2B ho2B hg2B hv2B
            obtain ⟨⟨f2B, q2B, b2B⟩, hnextB⟩ := S1B.out.next HXB.out.1 hposB HXB.out.2 ho2B hg2B
            have HNXB : Hid (∀ (W3 : World) (q : Int × Int × Int), Below w2B.heap.size w2B W3 → q = pV ps (stt p ps h t true c0 ((k0 + 1) + 1)) → Cs s p m (.slice a0 ps.length cap0) ps h t true c0 w (((W3.setCell ⟨w.heap.size + 1, 0, none⟩ (.int .i64 q.1)).setCell ⟨w.heap.size + 1, 1, none⟩ (.int .i64 q.2.1)).setCell ⟨w.heap.size + 1, 2, none⟩ (.int .i64 q.2.2)) ((k0 + 1) + 1) nvB) := hnextB
            have HFBB : Hid (Blk w2B w.heap.size (F4 s p m (.slice a0 ps.length cap0)) 26 ∧ Blk w2B (w.heap.size + 1) (P3 xB yB zB) 35 ∧ Below w.heap.size w w2B) := ⟨f2B, q2B, b2B⟩
            obtain ⟨S, hS⟩ : ∃ S : World → Prop, ∀ W, S W ↔ Below w2B.heap.size w2B W := ⟨_, fun _ => Iff.rfl⟩
            have s0 : ∀ W : At S, W.wd.cell? ⟨w.heap.size, 0, none⟩ = some (.int .i64 s) := fun W => (((hS _).1 W.ok).cell HFBB.out.1.lt).trans (HFBB.out.1.cell 0)
            have s1 : ∀ W : At S, W.wd.cell? ⟨w.heap.size, 1, none⟩ = some (.int .i64 p) := fun W => (((hS _).1 W.ok).cell HFBB.out.1.lt).trans (HFBB.out.1.cell 1)
            have s2 : ∀ W : At S, W.wd.cell? ⟨w.heap.size, 2, none⟩ = some (.int .i64 m) := fun W => (((hS _).1 W.ok).cell HFBB.out.1.lt).trans (HFBB.out.1.cell 2)
            have s3 : ∀ W : At S, W.wd.cell? ⟨w.heap.size, 3, none⟩ = some (.slice a0 ps.length cap0) := fun W => (((hS _).1 W.ok).cell HFBB.out.1.lt).trans (HFBB.out.1.cell 3)
            have s4 : ∀ W : At S, W.wd.cell? ⟨w.heap.size + 1, 1, none⟩ = some (.int .i64 yB) := fun W => (((hS _).1 W.ok).cell HFBB.out.2.1.lt).trans (HFBB.out.2.1.cell 1)
            have HSI : Hid (∀ W, Below w2B.heap.size w2B W → S W) := fun W h => (hS W).2 h
            have HSD : Hid (S w2B.drew) := HSI.out _ (Below.refl _ _).drew
            have ne : Nonempty (At S) := ⟨⟨_, HSD.out⟩⟩
            clear hS f2B q2B b2B hnextB ho2B hg2B hv2B p0B p1B p2B g0B g1B g2B HRLB HW1B S1B S4A
            go_wp2
            refine region_mixA [true, true, true, true, true, true, true, false, false] 8 1 S (by kernel_rfl) rfl (by kernel_rfl) (fun _ _ _ _ _ h => h) HSD.out ?_
            simp only [selT, selF]
            repeat (go_big_quiet_step (fail))
            refine wpQuiet_nil ?_
            clear s0 s1 s2 s3 s4 ne HSD
            refine tail_step ?_
            go_wp2_with (fail)
            refine (pathInto_v s p m (yB / p) a _ ps _ (HRt.out.below (belowCall HFBB.out.2.2 (Below.refl _ _).drew HFBB.out.2.2.size)) HR.out hp1 hp4 (HNP.out _ (belowCall HFBB.out.2.2 (Below.refl _ _).drew HFBB.out.2.2.size))).mono ?_
            rintro e w3B ⟨rfl, b3B⟩
            have b3' : Below w2B.heap.size w2B w3B := belowCall (Below.refl _ _).drew b3B (Nat.le_refl _)
            obtain ⟨⟨qxB, qyB, qzB⟩, hqB⟩ : ∃ q, fstP (outQ p (yB / p) a) ps = q := ⟨_, rfl⟩
            rw [hqB]
            have hqn : (qxB, qyB, qzB) = pV ps (stt p ps h t true c0 ((k0 + 1) + 1)) := by
              have e1 : pAt ps (stt p ps h t true c0 (k0 + 1)) = (xB, yB, zB) := by have := HXB.out.1; rw [pV, if_neg (by omega)] at this; exact this
              rw [← hqB, fstP_pV, stt_nxt hposB, e1, HXB.out.2, HPHB.out]; rfl
            have hS4 := HNXB.out w3B (qxB, qyB, qzB) b3' hqn
            dsimp only at hS4
            obtain ⟨W4B, hW4B⟩ : ∃ W4, ((w3B.setCell ⟨w.heap.size + 1, 0, none⟩ (.int .i64 qxB)).setCell ⟨w.heap.size + 1, 1, none⟩ (.int .i64 qyB)).setCell ⟨w.heap.size + 1, 2, none⟩ (.int .i64 qzB) = W4 := ⟨_, rfl⟩
            rw [hW4B] at hS4
            have S4B : Hid (Cs s p m (.slice a0 ps.length cap0) ps h t true c0 w W4B ((k0 + 1) + 1) nvB) := hS4
            have HW4B : Hid (((w3B.setCell ⟨w.heap.size + 1, 0, none⟩ (.int .i64 qxB)).setCell ⟨w.heap.size + 1, 1, none⟩ (.int .i64 qyB)).setCell ⟨w.heap.size + 1, 2, none⟩ (.int .i64 qzB) = W4B) := hW4B
            have HS3 : Hid (S w3B) := HSI.out _ b3'
            have pb3 : Blk w3B (w.heap.size + 1) (P3 xB yB zB) 35 := HFBB.out.2.1.below b3' HFBB.out.2.1.lt
            have t0 := pb3.cell 0
            have t1 := pb3.cell 1
            have t2 := pb3.cell 2
            have e0 := pb3.frozen 0
            have e1 := pb3.frozen 1
            have e2 := pb3.frozen 2
            simp at t0 t1 t2
            clear pb3 hS4 hW4B hqn hqB b3B b3' HFBB HNXB
            go_wp2
            refine ⟨HS3.out, tail_end ?_⟩
            clear HS3 HSI
            go_wp2
            rw [HW4B.out]
            clear t0 t1 t2 e0 e1 e2 HW4B
            go_step3
            exact (show J 1 _ _ from by rw [HJ.out]; exact ⟨(k0 + 1 + 1), _, _, _, _, _, _, _, _, _, _, _, _, _, _, _, _, _, _, _, _, _, _, _, _, _, _, _, _, _, _, _, _, _, _, _, _, _, _, _, _, _, _, _, rfl, S4B.out, .inl ⟨rfl, HPHC.out⟩⟩)
  · intro l A W hJl
    rw [HJ.out] at hJl
    obtain ⟨k, mv, u10, u11, u12, u13, u14, u15, u16, u17, u18, u19, u20, u21, u22, u23, u24, u25, u26, u27, u28, u29, u30, u31, u32, u33, u34, u35, u36, u37, u38, u39, u40, u41, u42, u43, u44, u45, u46, u47, u48, u49, u50, u51, rfl, hS, hl | hl⟩ := hJl
    · obtain ⟨rfl, hph⟩ := hl
      refine ⟨_, rfl, ?_⟩
      have HPHA : Hid (par k o (!o) = true) := hph
      have HPHB : Hid (par (k + 1) o (!o) = false) := (by rw [par_not, hph]; rfl : par (k + 1) o (!o) = false)
      have Sk : Hid (Cs s p m (.slice a0 ps.length cap0) ps h t o c0 w W k mv) := hS
      clear hph hS S0
      obtain ⟨avA, cvA, hvA, l1A, l2A⟩ := own_form2 Sk.out.own
      rw [mvL_len] at hvA l1A
      subst hvA
      unfold maxLen at l2A
      obtain ⟨⟨xA, yA, zA⟩, hxA⟩ : ∃ q, pV ps (stt p ps h t o c0 k) = q := ⟨_, rfl⟩
      have pbA := Sk.out.pb
      rw [hxA] at pbA
      have p0A := pbA.cell 0
      have p1A := pbA.cell 1
      have p2A := pbA.cell 2
      simp at p0A p1A p2A
      obtain ⟨g0A, g1A, g2A⟩ := HNP.out _ Sk.out.bel
      have lwA : w.heap.size + 1 < W.heap.size := pbA.lt
      clear pbA
      by_cases hnegA : stt p ps h t o c0 k < 0
      · obtain ⟨rfl, rfl, rfl⟩ : xA = -1 ∧ yA = -1 ∧ zA = -1 := by rw [pV, if_pos hnegA] at hxA; simp at hxA; omega
        have hde : decide (((-1 : Int), (-1 : Int), (-1 : Int)) = (-1, -1, -1)) = true := by simp
        have hfin : ChR p ps h t o c0 w (.returned (.slice avA k cvA)) W := ⟨_, k, rfl, hnegA, Sk.out.ge, Sk.out.own.mono (by omega), Sk.out.bel⟩
        have HF : Hid (ChR p ps h t o c0 w (.returned (.slice avA k cvA)) W) := hfin
        clear hfin hxA
        go_wp2_with (refine eqlList rfl _ _ rfl (-1) (-1) (-1) (-1) (-1) (-1) rfl rfl ?_; rw [hde])
        show bodyPost Tryd.prog Tryd.f64 (ChR p ps h t o c0 w) Exit.ret _ _
        go_ret
        exact HF.out
      · have hposA : 0 ≤ stt p ps h t o c0 k := by omega
        have hkbA := stt_bound HH.out k hposA
        have hmemA : (xA, yA, zA) ∈ ps := by
          have i1 := (stt_in HH.out k hposA).1
          have hxa : pAt ps (stt p ps h t o c0 k) = (xA, yA, zA) := by rw [pV, if_neg hnegA] at hxA; exact hxA
          rw [← hxa, pAt_eq i1]; exact List.getElem_mem _
        obtain ⟨⟨x1A, x2A⟩, ⟨y1A, y2A⟩⟩ := HR.out _ hmemA
        dsimp only at x1A x2A y1A y2A
        have hdeA : decide ((xA, yA, zA) = ((-1 : Int), (-1 : Int), (-1 : Int))) = false := by simp; omega
        obtain ⟨W1A, hW1A⟩ : ∃ W1, W.alloc (Obj.cells #[.int .i64 xA, .int .i64 b] 74) = W1 := ⟨_, rfl⟩
        have b1A : Below W.heap.size W W1A := hW1A ▸ (Below.refl _ _).alloc (Nat.le_refl _) _
        have kmA : Blk W1A W.heap.size #[.int .i64 xA, .int .i64 b] 74 := hW1A ▸ Blk.new _ _ _
        have HRLA : Hid (Rp mf mg W1A (.slice (some ⟨W.heap.size, 0, none⟩) 1 1) [(xA, b)]) := by
          refine ⟨_, 1, rfl, by simp, by simp [maxLen], .inr ⟨_, 0, rfl, fun i hi => ?_⟩⟩
          obtain rfl : i = 0 := Nat.lt_one_iff.1 hi
          exact ⟨kmA.cell 0, kmA.cell 1⟩
        have S1A : Hid (Cs s p m (.slice a0 ps.length cap0) ps h t o c0 w W1A k (.slice avA k cvA)) := Sk.out.below b1A
        have HW1A : Hid (W.alloc (Obj.cells #[.int .i64 xA, .int .i64 b] 74) = W1A) := hW1A
        have hs1A : w.heap.size + 2 ≤ W1A.heap.size := by have := b1A.size; omega
        have HXA : Hid (pV ps (stt p ps h t o c0 k) = (xA, yA, zA) ∧ par k t h = b) := ⟨hxA, (th_of HAB.out k).1 HPHA.out⟩
        clear b1A kmA hW1A hxA hmemA
        go_wp2_with (first | (refine eqlList rfl _ _ rfl xA yA zA (-1) (-1) (-1) rfl rfl ?_; rw [hdeA]) | (at_builtin; rw [HW1A.out]; refine appMv rfl _ _ rfl (w.heap.size + 2) _ (mvL p ps h t o c0 k) rfl S1A.out.own _ [(xA, b)] rfl HRLA.out (by rw [mvL_len]; simp; omega) hs1A ?_))
        intro nvA w2A ho2A hg2A hv2A
        obtain ⟨⟨f2A, q2A, b2A⟩, hnextA⟩ := S1A.out.next HXA.out.1 hposA HXA.out.2 ho2A hg2A
        have HNXA : Hid (∀ (W3 : World) (q : Int × Int × Int), Below w2A.heap.size w2A W3 → q = pV ps (stt p ps h t o c0 (k + 1)) → Cs s p m (.slice a0 ps.length cap0) ps h t o c0 w (((W3.setCell ⟨w.heap.size + 1, 0, none⟩ (.int .i64 q.1)).setCell ⟨w.heap.size + 1, 1, none⟩ (.int .i64 q.2.1)).setCell ⟨w.heap.size + 1, 2, none⟩ (.int .i64 q.2.2)) (k + 1) nvA) := hnextA
        have HFBA : Hid (Blk w2A w.heap.size (F4 s p m (.slice a0 ps.length cap0)) 26 ∧ Blk w2A (w.heap.size + 1) (P3 xA yA zA) 35 ∧ Below w.heap.size w w2A) := ⟨f2A, q2A, b2A⟩
        obtain ⟨S, hS⟩ : ∃ S : World → Prop, ∀ W, S W ↔ Below w2A.heap.size w2A W := ⟨_, fun _ => Iff.rfl⟩
        have s0 : ∀ W : At S, W.wd.cell? ⟨w.heap.size, 0, none⟩ = some (.int .i64 s) := fun W => (((hS _).1 W.ok).cell HFBA.out.1.lt).trans (HFBA.out.1.cell 0)
        have s1 : ∀ W : At S, W.wd.cell? ⟨w.heap.size, 1, none⟩ = some (.int .i64 p) := fun W => (((hS _).1 W.ok).cell HFBA.out.1.lt).trans (HFBA.out.1.cell 1)
        have s2 : ∀ W : At S, W.wd.cell? ⟨w.heap.size, 2, none⟩ = some (.int .i64 m) := fun W => (((hS _).1 W.ok).cell HFBA.out.1.lt).trans (HFBA.out.1.cell 2)
        have s3 : ∀ W : At S, W.wd.cell? ⟨w.heap.size, 3, none⟩ = some (.slice a0 ps.length cap0) := fun W => (((hS _).1 W.ok).cell HFBA.out.1.lt).trans (HFBA.out.1.cell 3)
        have s4 : ∀ W : At S, W.wd.cell? ⟨w.heap.size + 1, 0, none⟩ = some (.int .i64 xA) := fun W => (((hS _).1 W.ok).cell HFBA.out.2.1.lt).trans (HFBA.out.2.1.cell 0)
        have HSI : Hid (∀ W, Below w2A.heap.size w2A W → S W) := fun W h => (hS W).2 h
        have HSD : Hid (S w2A.drew) := HSI.out _ (Below.refl _ _).drew
        have ne : Nonempty (At S) := ⟨⟨_, HSD.out⟩⟩
        clear hS f2A q2A b2A hnextA ho2A hg2A hv2A p0A p1A p2A g0A g1A g2A HRLA HW1A S1A Sk
        go_wp2
        refine region_mixA [true, true, true, true, true, true, true, false, false] 8 1 S (by kernel_rfl) rfl (by kernel_rfl) (fun _ _ _ _ _ h => h) HSD.out ?_
        simp only [selT, selF]
        repeat (go_big_quiet_step (fail))
        refine wpQuiet_nil ?_
        clear s0 s1 s2 s3 s4 ne HSD
        refine tail_step ?_
        go_wp2_with (fail)
        refine (pathOutOf_v s p m (xA / p) b _ ps _ (HRt.out.below (belowCall HFBA.out.2.2 (Below.refl _ _).drew HFBA.out.2.2.size)) HR.out hp1 hp4 (HNP.out _ (belowCall HFBA.out.2.2 (Below.refl _ _).drew HFBA.out.2.2.size))).mono ?_
        rintro e w3A ⟨rfl, b3A⟩
        have b3' : Below w2A.heap.size w2A w3A := belowCall (Below.refl _ _).drew b3A (Nat.le_refl _)
        obtain ⟨⟨qxA, qyA, qzA⟩, hqA⟩ : ∃ q, fstP (inQ p (xA / p) b) ps = q := ⟨_, rfl⟩
        rw [hqA]
        have hqn : (qxA, qyA, qzA) = pV ps (stt p ps h t o c0 (k + 1)) := by
          have e1 : pAt ps (stt p ps h t o c0 k) = (xA, yA, zA) := by have := HXA.out.1; rw [pV, if_neg (by omega)] at this; exact this
          rw [← hqA, fstP_pV, stt_nxt hposA, e1, HXA.out.2, HPHA.out]; rfl
        have hS4 := HNXA.out w3A (qxA, qyA, qzA) b3' hqn
        dsimp only at hS4
        obtain ⟨W4A, hW4A⟩ : ∃ W4, ((w3A.setCell ⟨w.heap.size + 1, 0, none⟩ (.int .i64 qxA)).setCell ⟨w.heap.size + 1, 1, none⟩ (.int .i64 qyA)).setCell ⟨w.heap.size + 1, 2, none⟩ (.int .i64 qzA) = W4 := ⟨_, rfl⟩
        rw [hW4A] at hS4
        have S4A : Hid (Cs s p m (.slice a0 ps.length cap0) ps h t o c0 w W4A (k + 1) nvA) := hS4
        have HW4A : Hid (((w3A.setCell ⟨w.heap.size + 1, 0, none⟩ (.int .i64 qxA)).setCell ⟨w.heap.size + 1, 1, none⟩ (.int .i64 qyA)).setCell ⟨w.heap.size + 1, 2, none⟩ (.int .i64 qzA) = W4A) := hW4A
        have HS3 : Hid (S w3A) := HSI.out _ b3'
        have pb3 : Blk w3A (w.heap.size + 1) (P3 xA yA zA) 35 := HFBA.out.2.1.below b3' HFBA.out.2.1.lt
        have t0 := pb3.cell 0
        have t1 := pb3.cell 1
        have t2 := pb3.cell 2
        have e0 := pb3.frozen 0
        have e1 := pb3.frozen 1
        have e2 := pb3.frozen 2
        simp at t0 t1 t2
        clear pb3 hS4 hW4A hqn hqA b3A b3' HFBA HNXA
        go_wp2
        refine ⟨HS3.out, tail_end ?_⟩
        clear HS3 HSI
        go_wp2
        rw [HW4A.out]
        clear t0 t1 t2 e0 e1 e2 HW4A
        have HPHC : Hid (par (k + 1 + 1) o (!o) = true) := (by rw [par_not, HPHB.out]; rfl : par (k + 1 + 1) o (!o) = true)
        go_step3
        obtain ⟨avB, cvB, hvB, l1B, l2B⟩ := own_form2 S4A.out.own
        rw [mvL_len] at hvB l1B
        subst hvB
        unfold maxLen at l2B
        obtain ⟨⟨xB, yB, zB⟩, hxB⟩ : ∃ q, pV ps (stt p ps h t o c0 (k + 1)) = q := ⟨_, rfl⟩
        have pbB := S4A.out.pb
        rw [hxB] at pbB
        have p0B := pbB.cell 0
        have p1B := pbB.cell 1
        have p2B := pbB.cell 2
        simp at p0B p1B p2B
        obtain ⟨g0B, g1B, g2B⟩ := HNP.out _ S4A.out.bel
        have lwB : w.heap.size + 1 < W4A.heap.size := pbB.lt
        clear pbB
        by_cases hnegB : stt p ps h t o c0 (k + 1) < 0
        · obtain ⟨rfl, rfl, rfl⟩ : xB = -1 ∧ yB = -1 ∧ zB = -1 := by rw [pV, if_pos hnegB] at hxB; simp at hxB; omega
          have hde : decide (((-1 : Int), (-1 : Int), (-1 : Int)) = (-1, -1, -1)) = true := by simp
          have hfin : ChR p ps h t o c0 w (.returned (.slice avB (k + 1) cvB)) W4A := ⟨_, (k + 1), rfl, hnegB, S4A.out.ge, S4A.out.own.mono (by omega), S4A.out.bel⟩
          have HF : Hid (ChR p ps h t o c0 w (.returned (.slice avB (k + 1) cvB)) W4A) := hfin
          clear hfin hxB
          go_wp2_with (refine eqlList rfl _ _ rfl (-1) (-1) (-1) (-1) (-1) (-1) rfl rfl ?_; rw [hde])
          show bodyPost Tryd.prog Tryd.f64 (ChR p ps h t o c0 w) Exit.ret _ _
          go_ret
          exact HF.out
        · have hposB : 0 ≤ stt p ps h t o c0 (k + 1) := by omega
          have hkbB := stt_bound HH.out (k + 1) hposB
          have hmemB : (xB, yB, zB) ∈ ps := by
            have i1 := (stt_in HH.out (k + 1) hposB).1
            have hxa : pAt ps (stt p ps h t o c0 (k + 1)) = (xB, yB, zB) := by rw [pV, if_neg hnegB] at hxB; exact hxB
            rw [← hxa, pAt_eq i1]; exact List.getElem_mem _
          obtain ⟨⟨x1B, x2B⟩, ⟨y1B, y2B⟩⟩ := HR.out _ hmemB
          dsimp only at x1B x2B y1B y2B
          have hdeB : decide ((xB, yB, zB) = ((-1 : Int), (-1 : Int), (-1 : Int))) = false := by simp; omega
          obtain ⟨W1B, hW1B⟩ : ∃ W1, W4A.alloc (Obj.cells #[.int .i64 xB, .int .i64 a] 74) = W1 := ⟨_, rfl⟩
          have b1B : Below W4A.heap.size W4A W1B := hW1B ▸ (Below.refl _ _).alloc (Nat.le_refl _) _
          have kmB : Blk W1B W4A.heap.size #[.int .i64 xB, .int .i64 a] 74 := hW1B ▸ Blk.new _ _ _
          have HRLB : Hid (Rp mf mg W1B (.slice (some ⟨W4A.heap.size, 0, none⟩) 1 1) [(xB, a)]) := by
            refine ⟨_, 1, rfl, by simp, by simp [maxLen], .inr ⟨_, 0, rfl, fun i hi => ?_⟩⟩
            obtain rfl : i = 0 := Nat.lt_one_iff.1 hi
            exact ⟨kmB.cell 0, kmB.cell 1⟩
          have S1B : Hid (Cs s p m (.slice a0 ps.length cap0) ps h t o c0 w W1B (k + 1) (.slice avB (k + 1) cvB)) := S4A.out.below b1B
          have HW1B : Hid (W4A.alloc (Obj.cells #[.int .i64 xB, .int .i64 a] 74) = W1B) := hW1B
          have hs1B : w.heap.size + 2 ≤ W1B.heap.size := by have := b1B.size; omega
          have HXB : Hid (pV ps (stt p ps h t o c0 (k + 1)) = (xB, yB, zB) ∧ par (k + 1) t h = a) := ⟨hxB, (th_of HAB.out (k + 1)).2 HPHB.out⟩
          clear b1B kmB hW1B hxB hmemB
          go_wp2_with (first | (refine eqlList rfl _ _ rfl xB yB zB (-1) (-1) (-1) rfl rfl ?_; rw [hdeB]) | (at_builtin; rw [HW1B.out]; refine appMv rfl _ _ rfl (w.heap.size + 2) _ (mvL p ps h t o c0 (k + 1)) rfl S1B.out.own _ [(xB, a)] rfl HRLB.out (by rw [mvL_len]; simp; omega) hs1B ?_))
          intro nvB w2B ho2B hg2B hv2B
          obtain ⟨⟨f2B, q2B, b2B⟩, hnextB⟩ := S1B.out.next HXB.out.1 hposB HXB.out.2 ho2B hg2B
          have HNXB : Hid (∀ (W3 : World) (q : Int × Int × Int), Below w2B.heap.size w2B W3 → q = pV ps (stt p ps h t o c0 ((k + 1) + 1)) → Cs s p m (.slice a0 ps.length cap0) ps h t o c0 w (((W3.setCell ⟨w.heap.size + 1, 0, none⟩ (.int .i64 q.1)).setCell ⟨w.heap.size + 1, 1, none⟩ (.int .i64 q.2.1)).setCell ⟨w.heap.size + 1, 2, none⟩ (.int .i64 q.2.2)) ((k + 1) + 1) nvB) := hnextB
          have HFBB : Hid (Blk w2B w.heap.size (F4 s p m (.slice a0 ps.length cap0)) 26 ∧ Blk w2B (w.heap.size + 1) (P3 xB yB zB) 35 ∧ Below w.heap.size w w2B) := ⟨f2B, q2B, b2B⟩
          obtain ⟨S, hS⟩ : ∃ S : World → Prop, ∀ W, S W ↔ Below w2B.heap.size w2B W := ⟨_, fun _ => Iff.rfl⟩
          have s0 : ∀ W : At S, W.wd.cell? ⟨w.heap.size, 0, none⟩ = some (.int .i64 s) := fun W => (((hS _).1 W.ok).cell HFBB.out.1.lt).trans (HFBB.out.1.cell 0)
          have s1 : ∀ W : At S, W.wd.cell? ⟨w.heap.size, 1, none⟩ = some (.int .i64 p) := fun W => (((hS _).1 W.ok).cell HFBB.out.1.lt).trans (HFBB.out.1.cell 1)
          have s2 : ∀ W : At S, W.wd.cell? ⟨w.heap.size, 2, none⟩ = some (.int .i64 m) := fun W => (((hS _).1 W.ok).cell HFBB.out.1.lt).trans (HFBB.out.1.cell 2)
          have s3 : ∀ W : At S, W.wd.cell? ⟨w.heap.size, 3, none⟩ = some (.slice a0 ps.length cap0) := fun W => (((hS _).1 W.ok).cell HFBB.out.1.lt).trans (HFBB.out.1.cell 3)
          have s4 : ∀ W : At S, W.wd.cell? ⟨w.heap.size + 1, 1, none⟩ = some (.int .i64 yB) := fun W => (((hS _).1 W.ok).cell HFBB.out.2.1.lt).trans (HFBB.out.2.1.cell 1)
          have HSI : Hid (∀ W, Below w2B.heap.size w2B W → S W) := fun W h => (hS W).2 h
          have HSD : Hid (S w2B.drew) := HSI.out _ (Below.refl _ _).drew
          have ne : Nonempty (At S) := ⟨⟨_, HSD.out⟩⟩
          clear hS f2B q2B b2B hnextB ho2B hg2B hv2B p0B p1B p2B g0B g1B g2B HRLB HW1B S1B S4A
          go_wp2
          refine region_mixA [true, true, true, true, true, true, true, false, false] 8 1 S (by kernel_rfl) rfl (by kernel_rfl) (fun _ _ _ _ _ h => h) HSD.out ?_
          simp only [selT, selF]
          repeat (go_big_quiet_step (fail))
          refine wpQuiet_nil ?_
          clear s0 s1 s2 s3 s4 ne HSD
          refine tail_step ?_
          go_wp2_with (fail)
          refine (pathInto_v s p m (yB / p) a _ ps _ (HRt.out.below (belowCall HFBB.out.2.2 (Below.refl _ _).drew HFBB.out.2.2.size)) HR.out hp1 hp4 (HNP.out _ (belowCall HFBB.out.2.2 (Below.refl _ _).drew HFBB.out.2.2.size))).mono ?_
          rintro e w3B ⟨rfl, b3B⟩
          have b3' : Below w2B.heap.size w2B w3B := belowCall (Below.refl _ _).drew b3B (Nat.le_refl _)
          obtain ⟨⟨qxB, qyB, qzB⟩, hqB⟩ : ∃ q, fstP (outQ p (yB / p) a) ps = q := ⟨_, rfl⟩
          rw [hqB]
          have hqn : (qxB, qyB, qzB) = pV ps (stt p ps h t o c0 ((k + 1) + 1)) := by
            have e1 : pAt ps (stt p ps h t o c0 (k + 1)) = (xB, yB, zB) := by have := HXB.out.1; rw [pV, if_neg (by omega)] at this; exact this
            rw [← hqB, fstP_pV, stt_nxt hposB, e1, HXB.out.2, HPHB.out]; rfl
          have hS4 := HNXB.out w3B (qxB, qyB, qzB) b3' hqn
          dsimp only at hS4
          obtain ⟨W4B, hW4B⟩ : ∃ W4, ((w3B.setCell ⟨w.heap.size + 1, 0, none⟩ (.int .i64 qxB)).setCell ⟨w.heap.size + 1, 1, none⟩ (.int .i64 qyB)).setCell ⟨w.heap.size + 1, 2, none⟩ (.int .i64 qzB) = W4 := ⟨_, rfl⟩
          rw [hW4B] at hS4
          have S4B : Hid (Cs s p m (.slice a0 ps.length cap0) ps h t o c0 w W4B ((k + 1) + 1) nvB) := hS4
          have HW4B : Hid (((w3B.setCell ⟨w.heap.size + 1, 0, none⟩ (.int .i64 qxB)).setCell ⟨w.heap.size + 1, 1, none⟩ (.int .i64 qyB)).setCell ⟨w.heap.size + 1, 2, none⟩ (.int .i64 qzB) = W4B) := hW4B
          have HS3 : Hid (S w3B) := HSI.out _ b3'
          have pb3 : Blk w3B (w.heap.size + 1) (P3 xB yB zB) 35 := HFBB.out.2.1.below b3' HFBB.out.2.1.lt
          have t0 := pb3.cell 0
          have t1 := pb3.cell 1
          have t2 := pb3.cell 2
          have e0 := pb3.frozen 0
          have e1 := pb3.frozen 1
          have e2 := pb3.frozen 2
          simp at t0 t1 t2
          clear pb3 hS4 hW4B hqn hqB b3B b3' HFBB HNXB
          go_wp2
          refine ⟨HS3.out, tail_end ?_⟩
          clear HS3 HSI
          go_wp2
          rw [HW4B.out]
          clear t0 t1 t2 e0 e1 e2 HW4B
          go_step3
          obtain ⟨aq, cq, hq, -, -⟩ := own_form2 S4B.out.own
          rw [mvL_len] at hq
          subst hq
          exact (show J 1 _ _ ∧ _ from ⟨by rw [HJ.out]; exact ⟨(k + 1 + 1), _, _, _, _, _, _, _, _, _, _, _, _, _, _, _, _, _, _, _, _, _, _, _, _, _, _, _, _, _, _, _, _, _, _, _, _, _, _, _, _, _, _, _, rfl, S4B.out, .inl ⟨rfl, HPHC.out⟩⟩, by simp [slen]; omega⟩)
    · obtain ⟨rfl, hph⟩ := hl
      refine ⟨_, rfl, ?_⟩
      have HPHB : Hid (par k o (!o) = false) := hph
      have Sk : Hid (Cs s p m (.slice a0 ps.length cap0) ps h t o c0 w W k mv) := hS
      clear hph hS S0
      obtain ⟨avB, cvB, hvB, l1B, l2B⟩ := own_form2 Sk.out.own
      rw [mvL_len] at hvB l1B
      subst hvB
      unfold maxLen at l2B
      obtain ⟨⟨xB, yB, zB⟩, hxB⟩ : ∃ q, pV ps (stt p ps h t o c0 k) = q := ⟨_, rfl⟩
      have pbB := Sk.out.pb
      rw [hxB] at pbB
      have p0B := pbB.cell 0
      have p1B := pbB.cell 1
      have p2B := pbB.cell 2
      simp at p0B p1B p2B
      obtain ⟨g0B, g1B, g2B⟩ := HNP.out _ Sk.out.bel
      have lwB : w.heap.size + 1 < W.heap.size := pbB.lt
      clear pbB
      by_cases hnegB : stt p ps h t o c0 k < 0
      · obtain ⟨rfl, rfl, rfl⟩ : xB = -1 ∧ yB = -1 ∧ zB = -1 := by rw [pV, if_pos hnegB] at hxB; simp at hxB; omega
        have hde : decide (((-1 : Int), (-1 : Int), (-1 : Int)) = (-1, -1, -1)) = true := by simp
        have hfin : ChR p ps h t o c0 w (.returned (.slice avB k cvB)) W := ⟨_, k, rfl, hnegB, Sk.out.ge, Sk.out.own.mono (by omega), Sk.out.bel⟩
        have HF : Hid (ChR p ps h t o c0 w (.returned (.slice avB k cvB)) W) := hfin
        clear hfin hxB
        go_wp2_with (refine eqlList rfl _ _ rfl (-1) (-1) (-1) (-1) (-1) (-1) rfl rfl ?_; rw [hde])
        show bodyPost Tryd.prog Tryd.f64 (ChR p ps h t o c0 w) Exit.ret _ _
        go_ret
        exact HF.out
      · have hposB : 0 ≤ stt p ps h t o c0 k := by omega
        have hkbB := stt_bound HH.out k hposB
        have hmemB : (xB, yB, zB) ∈ ps := by
          have i1 := (stt_in HH.out k hposB).1
          have hxa : pAt ps (stt p ps h t o c0 k) = (xB, yB, zB) := by rw [pV, if_neg hnegB] at hxB; exact hxB
          rw [← hxa, pAt_eq i1]; exact List.getElem_mem _
        obtain ⟨⟨x1B, x2B⟩, ⟨y1B, y2B⟩⟩ := HR.out _ hmemB
        dsimp only at x1B x2B y1B y2B
        have hdeB : decide ((xB, yB, zB) = ((-1 : Int), (-1 : Int), (-1 : Int))) = false := by simp; omega
        obtain ⟨W1B, hW1B⟩ : ∃ W1, W.alloc (Obj.cells #[.int .i64 xB, .int .i64 a] 74) = W1 := ⟨_, rfl⟩
        have b1B : Below W.heap.size W W1B := hW1B ▸ (Below.refl _ _).alloc (Nat.le_refl _) _
        have kmB : Blk W1B W.heap.size #[.int .i64 xB, .int .i64 a] 74 := hW1B ▸ Blk.new _ _ _
        have HRLB : Hid (Rp mf mg W1B (.slice (some ⟨W.heap.size, 0, none⟩) 1 1) [(xB, a)]) := by
          refine ⟨_, 1, rfl, by simp, by simp [maxLen], .inr ⟨_, 0, rfl, fun i hi => ?_⟩⟩
          obtain rfl : i = 0 := Nat.lt_one_iff.1 hi
          exact ⟨kmB.cell 0, kmB.cell 1⟩
        have S1B : Hid (Cs s p m (.slice a0 ps.length cap0) ps h t o c0 w W1B k (.slice avB k cvB)) := Sk.out.below b1B
        have HW1B : Hid (W.alloc (Obj.cells #[.int .i64 xB, .int .i64 a] 74) = W1B) := hW1B
        have hs1B : w.heap.size + 2 ≤ W1B.heap.size := by have := b1B.size; omega
        have HXB : Hid (pV ps (stt p ps h t o c0 k) = (xB, yB, zB) ∧ par k t h = a) := ⟨hxB, (th_of HAB.out k).2 HPHB.out⟩
        clear b1B kmB hW1B hxB hmemB
        go_wp2_with (first | (refine eqlList rfl _ _ rfl xB yB zB (-1) (-1) (-1) rfl rfl ?_; rw [hdeB]) | (at_builtin; rw [HW1B.out]; refine appMv rfl _ _ rfl (w.heap.size + 2) _ (mvL p ps h t o c0 k) rfl S1B.out.own _ [(xB, a)] rfl HRLB.out (by rw [mvL_len]; simp; omega) hs1B ?_))
        intro nvB w2B ho2B hg2B hv2B
        obtain ⟨⟨f2B, q2B, b2B⟩, hnextB⟩ := S1B.out.next HXB.out.1 hposB HXB.out.2 ho2B hg2B
        have HNXB : Hid (∀ (W3 : World) (q : Int × Int × Int), Below w2B.heap.size w2B W3 → q = pV ps (stt p ps h t o c0 (k + 1)) → Cs s p m (.slice a0 ps.length cap0) ps h t o c0 w (((W3.setCell ⟨w.heap.size + 1, 0, none⟩ (.int .i64 q.1)).setCell ⟨w.heap.size + 1, 1, none⟩ (.int .i64 q.2.1)).setCell ⟨w.heap.size + 1, 2, none⟩ (.int .i64 q.2.2)) (k + 1) nvB) := hnextB
        have HFBB : Hid (Blk w2B w.heap.size (F4 s p m (.slice a0 ps.length cap0)) 26 ∧ Blk w2B (w.heap.size + 1) (P3 xB yB zB) 35 ∧ Below w.heap.size w w2B) := ⟨f2B, q2B, b2B⟩
        obtain ⟨S, hS⟩ : ∃ S : World → Prop, ∀ W, S W ↔ Below w2B.heap.size w2B W := ⟨_, fun _ => Iff.rfl⟩
        have s0 : ∀ W : At S, W.wd.cell? ⟨w.heap.size, 0, none⟩ = some (.int .i64 s) := fun W => (((hS _).1 W.ok).cell HFBB.out.1.lt).trans (HFBB.out.1.cell 0)
        have s1 : ∀ W : At S, W.wd.cell? ⟨w.heap.size, 1, none⟩ = some (.int .i64 p) := fun W => (((hS _).1 W.ok).cell HFBB.out.1.lt).trans (HFBB.out.1.cell 1)
        have s2 : ∀ W : At S, W.wd.cell? ⟨w.heap.size, 2, none⟩ = some (.int .i64 m) := fun W => (((hS _).1 W.ok).cell HFBB.out.1.lt).trans (HFBB.out.1.cell 2)
        have s3 : ∀ W : At S, W.wd.cell? ⟨w.heap.size, 3, none⟩ = some (.slice a0 ps.length cap0) := fun W => (((hS _).1 W.ok).cell HFBB.out.1.lt).trans (HFBB.out.1.cell 3)
        have s4 : ∀ W : At S, W.wd.cell? ⟨w.heap.size + 1, 1, none⟩ = some (.int .i64 yB) := fun W => (((hS _).1 W.ok).cell HFBB.out.2.1.lt).trans (HFBB.out.2.1.cell 1)
        have HSI : Hid (∀ W, Below w2B.heap.size w2B W → S W) := fun W h => (hS W).2 h
        have HSD : Hid (S w2B.drew) := HSI.out _ (Below.refl _ _).drew
        have ne : Nonempty (At S) := ⟨⟨_, HSD.out⟩⟩
        clear hS f2B q2B b2B hnextB ho2B hg2B hv2B p0B p1B p2B g0B g1B g2B HRLB HW1B S1B Sk
        go_wp2
        refine region_mixA [true, true, true, true, true, true, true, false, false] 8 1 S (by kernel_rfl) rfl (by kernel_rfl) (fun _ _ _ _ _ h => h) HSD.out ?_
        simp only [selT, selF]
        repeat (go_big_quiet_step (fail))
        refine wpQuiet_nil ?_
        clear s0 s1 s2 s3 s4 ne HSD
        refine tail_step ?_
        go_wp2_with (fail)
        refine (pathInto_v s p m (yB / p) a _ ps _ (HRt.out.below (belowCall HFBB.out.2.2 (Below.refl _ _).drew HFBB.out.2.2.size)) HR.out hp1 hp4 (HNP.out _ (belowCall HFBB.out.2.2 (Below.refl _ _).drew HFBB.out.2.2.size))).mono ?_
        rintro e w3B ⟨rfl, b3B⟩
        have b3' : Below w2B.heap.size w2B w3B := belowCall (Below.refl _ _).drew b3B (Nat.le_refl _)
        obtain ⟨⟨qxB, qyB, qzB⟩, hqB⟩ : ∃ q, fstP (outQ p (yB / p) a) ps = q := ⟨_, rfl⟩
        rw [hqB]
        have hqn : (qxB, qyB, qzB) = pV ps (stt p ps h t o c0 (k + 1)) := by
          have e1 : pAt ps (stt p ps h t o c0 k) = (xB, yB, zB) := by have := HXB.out.1; rw [pV, if_neg (by omega)] at this; exact this
          rw [← hqB, fstP_pV, stt_nxt hposB, e1, HXB.out.2, HPHB.out]; rfl
        have hS4 := HNXB.out w3B (qxB, qyB, qzB) b3' hqn
        dsimp only at hS4
        obtain ⟨W4B, hW4B⟩ : ∃ W4, ((w3B.setCell ⟨w.heap.size + 1, 0, none⟩ (.int .i64 qxB)).setCell ⟨w.heap.size + 1, 1, none⟩ (.int .i64 qyB)).setCell ⟨w.heap.size + 1, 2, none⟩ (.int .i64 qzB) = W4 := ⟨_, rfl⟩
        rw [hW4B] at hS4
        have S4B : Hid (Cs s p m (.slice a0 ps.length cap0) ps h t o c0 w W4B (k + 1) nvB) := hS4
        have HW4B : Hid (((w3B.setCell ⟨w.heap.size + 1, 0, none⟩ (.int .i64 qxB)).setCell ⟨w.heap.size + 1, 1, none⟩ (.int .i64 qyB)).setCell ⟨w.heap.size + 1, 2, none⟩ (.int .i64 qzB) = W4B) := hW4B
        have HS3 : Hid (S w3B) := HSI.out _ b3'
        have pb3 : Blk w3B (w.heap.size + 1) (P3 xB yB zB) 35 := HFBB.out.2.1.below b3' HFBB.out.2.1.lt
        have t0 := pb3.cell 0
        have t1 := pb3.cell 1
        have t2 := pb3.cell 2
        have e0 := pb3.frozen 0
        have e1 := pb3.frozen 1
        have e2 := pb3.frozen 2
        simp at t0 t1 t2
        clear pb3 hS4 hW4B hqn hqB b3B b3' HFBB HNXB
        go_wp2
        refine ⟨HS3.out, tail_end ?_⟩
        clear HS3 HSI
        go_wp2
        rw [HW4B.out]
        clear t0 t1 t2 e0 e1 e2 HW4B
        have HPHC : Hid (par (k + 1) o (!o) = true) := (by rw [par_not, HPHB.out]; rfl : par (k + 1) o (!o) = true)
        go_step3
        obtain ⟨aq, cq, hq, -, -⟩ := own_form2 S4B.out.own
        rw [mvL_len] at hq
        subst hq
        exact (show J 1 _ _ ∧ _ from ⟨by rw [HJ.out]; exact ⟨(k + 1), _, _, _, _, _, _, _, _, _, _, _, _, _, _, _, _, _, _, _, _, _, _, _, _, _, _, _, _, _, _, _, _, _, _, _, _, _, _, _, _, _, _, _, rfl, S4B.out, .inl ⟨rfl, HPHC.out⟩⟩, by simp [slen]; omega⟩)
end Go.Proofs.YtikhfeafbckjlaaDoor
