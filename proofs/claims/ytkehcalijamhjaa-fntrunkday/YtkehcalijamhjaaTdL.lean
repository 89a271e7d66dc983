/- FnTrunkDay; no condition. -/
import Derived.Test.YtkehcalijamhjaaTdN
import Derived.Test.YtkehcalijamhjaaDrw
import Derived.Test.YtkehcalijamhjaaStI
import Derived.Test.YtkehcalijamhjaaCaI
namespace Go.Proofs.Ytkehcalijamhjaa
open Go.RowKit Go.ChangeShapes Go.WideShapes Go.ChangeAt
set_option linter.unusedVariables false
set_option linter.unusedSimpArgs false
set_option maxRecDepth 8000
theorem Rk.frK {X : Nat → Prop} {W W' : World} {c0 c1 w0 w1 : Value} {z0 z1 : List Int} {n0 n1 : Mvs} (x : Rk W c0 c1 w0 w1 z0 z1 n0 n1) (hf : Fr X W W') (hx : ∀ k, InT c0 c1 w0 w1 k → ¬ X k) : Rk W' c0 c1 w0 w1 z0 z1 n0 n1 := by
  have lt0 : ∀ (v : Value) (ls : List Int), Rd .i64 W v ls → (∀ k, v.ownBlock = some k → ¬ X k) → Rd .i64 W' v ls := by
    intro v ls h hn
    obtain ⟨a, cap, rfl, h1, h2, h3⟩ := h
    refine ⟨a, cap, rfl, h1, h2, ?_⟩
    rcases h3 with h3 | ⟨b, off, rfl, h4⟩
    · exact .inl h3
    · refine .inr ⟨b, off, rfl, fun i hi => ?_⟩
      have hc := h4 i hi
      rw [World.cell?_of_block (w := W) (hf.block b (block_lt_of_cell hc) (hn b rfl))]
      exact hc
  have lt1 : ∀ (v : Value) (ls : Mvs), Rp mf mg W v ls → (∀ k, v.ownBlock = some k → ¬ X k) → Rp mf mg W' v ls := by
    intro v ls h hn
    by_cases hl : ls = []
    · obtain ⟨a, cap, rfl, h1, h2, h3⟩ := h
      exact ⟨a, cap, rfl, h1, h2, .inl hl⟩
    · exact h.fr hf (fun k e => ⟨by
        obtain ⟨a, cap, rfl, h1, h2, h3⟩ := h
        rcases h3 with h3 | ⟨b, off, rfl, h4⟩
        · exact absurd h3 hl
        · have e' : b = k := by simpa [Value.ownBlock] using e
          subst e'
          have hp : 0 < ls.length := by cases ls with | nil => exact absurd rfl hl | cons _ _ => simp
          exact block_lt_of_cell (h4 0 hp).1, hn k e⟩)
  exact ⟨lt0 _ _ x.r0 (fun k e => hx k (.inl (.inl e))), lt0 _ _ x.r1 (fun k e => hx k (.inl (.inr e))), lt1 _ _ x.r2 (fun k e => hx k (.inr (.inl e))), lt1 _ _ x.r3 (fun k e => hx k (.inr (.inr e)))⟩
theorem mineN_bd (z : List Int) : ∀ j, 0 ≤ mineN z j ∧ mineN z j ≤ j
  | 0 => by simp [mineN]
  | j + 1 => by have := mineN_bd z j; unfold mineN; split <;> omega
set_option maxHeartbeats 25600000 in
theorem dayLaw (v : Value) (zs : List Int) (w : World) (h : Rd .u8 w v zs) (hwz : ∀ z ∈ zs, (Lit.int .u8 z).wf = true) : Calls Try.prog 3 #[v] w fun e w' => e = .returned (.bool true) ∧ Below w.heap.size w w' := by
  have HR : Hid (Rd .u8 w v zs) := h
  have HOK : Hid (∀ z ∈ zs, 0 ≤ z ∧ z ≤ 255) := fun z hm => bounds_u8 (hwz z hm)
  have HB0 : Hid (Below w.heap.size w w) := Below.refl _ _
  obtain ⟨a, cap, rfl, -, -, -⟩ := h
  clear hwz
  by_cases hbig : (1048576 : Int) < (zs.length : Int)
  · have hbd : decide ((1048576 : Int) < (zs.length : Int)) = true := by simp; omega
    go_enter Try.func3, Try.ntmps3
    go_wp2_with (fail)
    refine (big_c _ zs _ HR.out).mono ?_
    rintro e w1 ⟨rfl, hw⟩
    rw [hbd, hw]
    clear hw
    go_wp2
    go_ret
    exact ⟨rfl, HB0.out⟩
  have hbd : decide ((1048576 : Int) < (zs.length : Int)) = false := by simp; omega
  have HL : Hid (zs.length ≤ 1048576) := by show _ ≤ _; omega
  clear hbig
  go_enter Try.func3, Try.ntmps3
  go_wp2_with (fail)
  refine (big_c _ zs _ HR.out).mono ?_
  rintro e w1 ⟨rfl, hw⟩
  rw [hbd, hw]
  clear hw hbd
  go_wp2_with (fail)
  refine (drawDay_c _ zs _ HR.out HOK.out HL.out).mono ?_
  rintro e w2 ⟨n, av, gs, ac, rfl, hn, hal, hP, hO, b2⟩
  obtain ⟨nn, rfl⟩ := Int.eq_ofNat_of_zero_le (show 0 ≤ n by omega)
  have HNN : Hid (1 ≤ nn ∧ nn ≤ 6) := by show _ ∧ _; omega
  have HAL : Hid (ac.length ≤ 100) := hal
  have HP : Hid (∀ x ∈ ac, ActP nn x) := hP
  have HO : Hid (Oa w.heap.size w2 av gs ac) := hO
  have HB2 : Hid (Below w.heap.size w w2) := b2
  clear hn hal hP b2
  obtain ⟨aa, acap, hav, haz⟩ : ∃ aa cap, av = .slice aa ac.length cap ∧ (ac.length = 0 ∨ ∃ b, aa = some ⟨b, 0, none⟩ ∧ b < w2.heap.size ∧ ∀ i (hi : i < gs.length), w2.cell? ⟨b, i, none⟩ = some (sl3 gs[i])) := by
    rcases hO.own.2 with ⟨e1, e2⟩ | ⟨b, cp, cur, e1, e2, e3, e4⟩
    · exact ⟨none, 0, by rw [e2]; exact e1, .inl e2⟩
    · refine ⟨_, cp, e1, .inr ⟨b, rfl, (Array.getElem?_eq_some_iff.1 e3).1, fun i hi => ?_⟩⟩
      have := hO.own
      rw [e1] at this
      have h2 := this.cellAt i (by rw [← hO.len]; simpa using hi)
      rw [h2]; simp [List.getElem?_eq_getElem hi]
  subst hav
  have HAZ : Hid (ac.length = 0 ∨ ∃ b, aa = some ⟨b, 0, none⟩ ∧ b < w2.heap.size ∧ ∀ i (hi : i < gs.length), w2.cell? ⟨b, i, none⟩ = some (sl3 gs[i])) := haz
  clear haz hO
  obtain ⟨K, hK⟩ : ∃ K, ac.length = K := ⟨_, rfl⟩
  have HK : Hid (ac.length = K) := hK
  rw [hK] at HAZ HAL ⊢
  have hKl : K ≤ 100 := HAL.out
  clear hK
  go_wp2_with (fail)
  refine (newI_c _ w2).mono ?_
  rintro e w3 ⟨c0, c1, rfl, oo, bb⟩
  obtain ⟨e0, f0, hf0, -⟩ := own_form oo.o0
  obtain ⟨e1, f1, hf1, -⟩ := own_form oo.o1
  obtain ⟨q0, hq0⟩ : ∃ q, (nz nn).length = q := ⟨_, rfl⟩
  rw [hq0] at hf0 hf1
  clear hq0
  subst hf0 hf1
  obtain ⟨W3, hW3⟩ : ∃ W, w3.alloc (Obj.cells (T6 (.slice e0 q0 f0) (.slice e1 q0 f1) 0 0 (.slice none 0 0) (.slice none 0 0)) 33) = W := ⟨_, rfl⟩
  obtain ⟨gT, hgT⟩ : ∃ k, w3.heap.size = k := ⟨_, rfl⟩
  have al : Below w3.heap.size w3 W3 := by rw [← hW3]; exact (Below.refl _ _).alloc (Nat.le_refl _) _
  have bal : Below w2.heap.size w2 W3 := belowCall bb al bb.size
  have HX3 : Hid (Blk W3 gT (T6 (.slice e0 q0 f0) (.slice e1 q0 f1) 0 0 (.slice none 0 0) (.slice none 0 0)) 33 ∧ Rk W3 (.slice e0 q0 f0) (.slice e1 q0 f1) (.slice none 0 0) (.slice none 0 0) (nz nn) (nz nn) [] []) := ⟨by rw [← hW3, ← hgT]; exact Blk.new _ _ _, oo.rd.below al⟩
  have HGT : Hid (w2.heap.size ≤ gT) := by rw [← hgT]; exact bb.size
  have HB3 : Hid (Below w2.heap.size w2 W3) := bal
  clear oo bb al bal
  have HW3 : Hid (w3.alloc (Obj.cells (T6 (.slice e0 q0 f0) (.slice e1 q0 f1) 0 0 (.slice none 0 0) (.slice none 0 0)) 33) = W3 ∧ w3.heap.size = gT) := ⟨hW3, hgT⟩
  clear hW3 hgT
  go_wp2
  rw [HW3.out.1, HW3.out.2]
  clear HW3
  go_loopw [6, 7, 8] (fun av lv i wr => ∃ (j : Nat) (s : Ts) (x0 x1 x2 x3 : Value) (asked left : Int), i = .int .i64 j ∧ av = .int .i64 asked ∧ lv = .int .i64 left ∧ Hid (Blk wr gT (T6 x0 x1 s.l0 s.l1 x2 x3) 33 ∧ Rk wr x0 x1 x2 x3 s.z0 s.z1 s.n0 s.n1) ∧ Hid (Day nn s ∧ Acc s asked left ∧ j ≤ K ∧ 0 ≤ asked ∧ asked ≤ j ∧ 0 ≤ left ∧ left ≤ j) ∧ Hid (Below w2.heap.size w2 wr)) (fun _ _ i _ => K - (intOf i).toNat)
  case atStart => exact ⟨0, Ts.mk 0 0 (nz nn) (nz nn) [] [], _, _, _, _, 0, 0, rfl, rfl, rfl, HX3.out, ⟨(Day.new nn HNN.out.1 HNN.out.2).1, (Day.new nn HNN.out.1 HNN.out.2).2, by omega, by omega, by omega, by omega, by omega⟩, HB3.out⟩
  case round =>
    obtain ⟨j, ⟨sl0, sl1, sz0, sz1, sn0, sn1⟩, x0, x1, x2, x3, asked, left, rfl, rfl, rfl, HBX, HDA0, HB⟩ := hrel
    simp only at HBX
    clear HX3 HB3
    have HDA : Hid (Day nn (Ts.mk sl0 sl1 sz0 sz1 sn0 sn1) ∧ Acc (Ts.mk sl0 sl1 sz0 sz1 sn0 sn1) asked left ∧ j ≤ K ∧ 0 ≤ asked ∧ asked ≤ j ∧ 0 ≤ left ∧ left ≤ j) := HDA0.out
    clear HDA0
    have HSL : Hid ((sz0.length : Int) + sz1.length + (sn0.length + sn1.length) ≤ 1048576) := HDA.out.1.sum
    have hjK := HDA.out.2.2.1
    have has0 := HDA.out.2.2.2.1
    have has1 := HDA.out.2.2.2.2.1
    have hle0 := HDA.out.2.2.2.2.2.1
    have hle1 := HDA.out.2.2.2.2.2.2
    by_cases hlt : j < K
    · obtain ⟨y0, g0, hx0, -⟩ := HBX.out.2.r0
      obtain ⟨y1, g1, hx1, -⟩ := HBX.out.2.r1
      obtain ⟨y2, g2, hx2, -⟩ := HBX.out.2.r2
      obtain ⟨y3, g3, hx3, -⟩ := HBX.out.2.r3
      obtain ⟨b0, hb0⟩ : ∃ q, sz0.length = q := ⟨_, rfl⟩
      rw [hb0] at hx0
      clear hb0
      obtain ⟨b1, hb1⟩ : ∃ q, sz1.length = q := ⟨_, rfl⟩
      rw [hb1] at hx1
      clear hb1
      obtain ⟨b2, hb2⟩ : ∃ q, sn0.length = q := ⟨_, rfl⟩
      rw [hb2] at hx2
      clear hb2
      obtain ⟨b3, hb3⟩ : ∃ q, sn1.length = q := ⟨_, rfl⟩
      rw [hb3] at hx3
      clear hb3
      subst hx0 hx1 hx2 hx3
      rcases HAZ.out with hz | ⟨b, hb, hbl, hcell⟩
      · omega
      subst hb
      have hgl : j < gs.length := by rw [HO.out.len, HK.out]; exact hlt
      have hacl : j < ac.length := by rw [HK.out]; exact hlt
      obtain ⟨ig, hig⟩ : ∃ q, gs[j] = q := ⟨_, rfl⟩
      obtain ⟨⟨ac0, ac1, ac2⟩, hac⟩ : ∃ q, ac[j] = q := ⟨_, rfl⟩
      have hce := hcell j hgl
      rw [hig] at hce
      have hbk := (HO.out.blk j hgl hacl).2
      rw [hig, hac] at hbk
      have cA : wr.cell? ⟨b, j, none⟩ = some (sl3 ig) := by rw [HB.out.cell hbl]; exact hce
      have hbw := hbk.below HB.out hbk.lt
      have cB0 := hbw.cell 0
      have cB1 := hbw.cell 1
      have cB2 := hbw.cell 2
      have cBl := hbw.lt
      simp at cB0 cB1 cB2
      have HAP : Hid (ActP nn (ac0, ac1, ac2)) := by rw [← hac]; exact HP.out _ (List.getElem_mem hacl)
      have hij : (0 : Int) ≤ (j : Int) := by omega
      have hij2 : (j : Int) < (K : Int) := by omega
      clear hcell hce hbk hbw hig hac
      go_wp2
      go_quiet (fail)
      clear cA cB0 cB1 cB2 cBl hij hij2 hgl hacl
      obtain ⟨wq, hwq⟩ : ∃ W, wr.drewN nq = W := ⟨_, rfl⟩
      have bq : Below wr.heap.size wr wq := by rw [← hwq]; exact belowDrewN (Below.refl _ _) nq
      have HBXq : Hid (Blk wq gT (T6 (.slice y0 b0 g0) (.slice y1 b1 g1) sl0 sl1 (.slice y2 b2 g2) (.slice y3 b3 g3)) 33 ∧ Rk wq (.slice y0 b0 g0) (.slice y1 b1 g1) (.slice y2 b2 g2) (.slice y3 b3 g3) sz0 sz1 sn0 sn1) := ⟨HBX.out.1.below bq HBX.out.1.lt, HBX.out.2.below bq⟩
      have HBq : Hid (Below w2.heap.size w2 wq) := belowCall HB.out bq HB.out.size
      rw [hwq]
      clear hwq bq HBX HB
      obtain ⟨hsd, hkd, hc0, hc1⟩ := HAP.out
      simp only at hsd hkd hc0 hc1
      clear HAP
      rcases hkd with hkd | hkd | hkd
      · subst hkd
        rcases hsd with hsd | hsd
        · subst hsd
          by_cases hok : SzOk0 sz0 sz1 sl0 sl1 sn0 sn1
          · have HOK : Hid (SzOk0 sz0 sz1 sl0 sl1 sn0 sn1) := hok
            clear hok
            have HNA : Hid (Day nn (Ts.mk sl0 sl1 (sz0.set (freeF sz0 0).toNat 1) sz1 sn0 (sn1 ++ [(1, freeF sz0 0)])) ∧ Acc (Ts.mk sl0 sl1 (sz0.set (freeF sz0 0).toNat 1) sz1 sn0 (sn1 ++ [(1, freeF sz0 0)])) (asked + 1) (left)) := (HDA.out.1.sz0 HDA.out.2.1 HOK.out)
            have hfp : 0 ≤ freeF sz0 0 := HOK.out.2.1
            obtain ⟨fc, hfc⟩ : ∃ q, freeF sz0 0 = q := ⟨_, rfl⟩
            have hfp' : 0 ≤ fc := by rw [← hfc]; exact hfp
            have HFC : Hid (freeF sz0 0 = fc) := hfc
            clear hfp hfc
            have hxx : (fc != fc) = false := by simp
            obtain ⟨N, hN⟩ : ∃ N, (Ts.mk sl0 sl1 (sz0.set (freeF sz0 0).toNat 1) sz1 sn0 (sn1 ++ [(1, freeF sz0 0)])) = N := ⟨_, rfl⟩
            have HN : Hid ((Ts.mk sl0 sl1 (sz0.set (freeF sz0 0).toNat 1) sz1 sn0 (sn1 ++ [(1, freeF sz0 0)])) = N) := hN
            rw [hN] at HNA
            clear hN
            have x0 := HBXq.out.1.cell 0
            have x1 := HBXq.out.1.cell 1
            have x2 := HBXq.out.1.cell 2
            have x3 := HBXq.out.1.cell 3
            have x4 := HBXq.out.1.cell 4
            have x5 := HBXq.out.1.cell 5
            have xl := HBXq.out.1.lt
            simp at x0 x1 x2 x3 x4 x5
            go_wp2_with (fail)
            clear x0 x1 x2 x3 x4 x5 xl
            refine (seizeI0_c _ _ _ _ sl0 sl1 sz0 sz1 sn0 sn1 wq HBXq.out.2 HSL.out).mono ?_
            rintro e w4 hx
            have hx1 := hx.1 HOK.out
            have hx2 : TwS (Ts.mk sl0 sl1 (sz0.set (freeF sz0 0).toNat 1) sz1 sn0 (sn1 ++ [(1, freeF sz0 0)])).l0 (Ts.mk sl0 sl1 (sz0.set (freeF sz0 0).toNat 1) sz1 sn0 (sn1 ++ [(1, freeF sz0 0)])).l1 (Ts.mk sl0 sl1 (sz0.set (freeF sz0 0).toNat 1) sz1 sn0 (sn1 ++ [(1, freeF sz0 0)])).z0 (Ts.mk sl0 sl1 (sz0.set (freeF sz0 0).toNat 1) sz1 sn0 (sn1 ++ [(1, freeF sz0 0)])).z1 (Ts.mk sl0 sl1 (sz0.set (freeF sz0 0).toNat 1) sz1 sn0 (sn1 ++ [(1, freeF sz0 0)])).n0 (Ts.mk sl0 sl1 (sz0.set (freeF sz0 0).toNat 1) sz1 sn0 (sn1 ++ [(1, freeF sz0 0)])).n1 (.int .i64 (freeF sz0 0)) wq e w4 := hx1
            rw [HN.out] at hx2
            clear hx hx1
            rw [HFC.out] at hx2
            obtain ⟨v0, v1, v2, v3, rfl, oo, bb⟩ := hx2
            have rkI := oo.rd
            obtain ⟨Ie0, If0, hf0, -⟩ := rkI.r0
            obtain ⟨Ie1, If1, hf1, -⟩ := rkI.r1
            obtain ⟨Ie2, If2, hf2, -⟩ := rkI.r2
            obtain ⟨Ie3, If3, hf3, -⟩ := rkI.r3
            obtain ⟨i0, hi0⟩ : ∃ q, N.z0.length = q := ⟨_, rfl⟩
            rw [hi0] at hf0
            clear hi0
            obtain ⟨i1, hi1⟩ : ∃ q, N.z1.length = q := ⟨_, rfl⟩
            rw [hi1] at hf1
            clear hi1
            obtain ⟨i2, hi2⟩ : ∃ q, N.n0.length = q := ⟨_, rfl⟩
            rw [hi2] at hf2
            clear hi2
            obtain ⟨i3, hi3⟩ : ∃ q, N.n1.length = q := ⟨_, rfl⟩
            rw [hi3] at hf3
            clear hi3
            subst hf0 hf1 hf2 hf3
            obtain ⟨nl0, hnl0⟩ : ∃ q, N.l0 = q := ⟨_, rfl⟩
            obtain ⟨nl1, hnl1⟩ : ∃ q, N.l1 = q := ⟨_, rfl⟩
            have HNL : Hid (N.l0 = nl0 ∧ N.l1 = nl1) := ⟨hnl0, hnl1⟩
            rw [hnl0, hnl1]
            clear hnl0 hnl1
            obtain ⟨W5, hW5⟩ : ∃ W, w4.alloc (Obj.cells (T6 (.slice Ie0 i0 If0) (.slice Ie1 i1 If1) nl0 nl1 (.slice Ie2 i2 If2) (.slice Ie3 i3 If3)) 33) = W := ⟨_, rfl⟩
            obtain ⟨g5, hg5⟩ : ∃ k, w4.heap.size = k := ⟨_, rfl⟩
            have al : Below w4.heap.size w4 W5 := by rw [← hW5]; exact (Below.refl _ _).alloc (Nat.le_refl _) _
            have bal : Below wq.heap.size wq W5 := belowCall bb al bb.size
            have KI5 : Hid (Blk W5 g5 (T6 (.slice Ie0 i0 If0) (.slice Ie1 i1 If1) nl0 nl1 (.slice Ie2 i2 If2) (.slice Ie3 i3 If3)) 33) := by rw [← hW5, ← hg5]; exact Blk.new _ _ _
            have HRI5 : Hid (Rk W5 (.slice Ie0 i0 If0) (.slice Ie1 i1 If1) (.slice Ie2 i2 If2) (.slice Ie3 i3 If3) N.z0 N.z1 N.n0 N.n1 ∧ (∀ k, InT (.slice Ie0 i0 If0) (.slice Ie1 i1 If1) (.slice Ie2 i2 If2) (.slice Ie3 i3 If3) k → k ≠ gT) ∧ gT < g5) := ⟨rkI.below al, fun k hk => by have h1 := oo.ge k hk; have h2 := HBXq.out.1.lt; omega, by have h2 := HBXq.out.1.lt; have := bb.size; omega⟩
            have HBX5 : Hid (Blk W5 gT (T6 (.slice y0 b0 g0) (.slice y1 b1 g1) sl0 sl1 (.slice y2 b2 g2) (.slice y3 b3 g3)) 33 ∧ Rk W5 (.slice y0 b0 g0) (.slice y1 b1 g1) (.slice y2 b2 g2) (.slice y3 b3 g3) sz0 sz1 sn0 sn1) := ⟨HBXq.out.1.below bal HBXq.out.1.lt, HBXq.out.2.below bal⟩
            have HB5 : Hid (Below w2.heap.size w2 W5) := belowCall HBq.out bal HBq.out.size
            clear oo bb al bal rkI HBXq HBq
            have x0 := HBX5.out.1.cell 0
            have x1 := HBX5.out.1.cell 1
            have x2 := HBX5.out.1.cell 2
            have x3 := HBX5.out.1.cell 3
            have x4 := HBX5.out.1.cell 4
            have x5 := HBX5.out.1.cell 5
            have xl := HBX5.out.1.lt
            simp at x0 x1 x2 x3 x4 x5
            go_wp2_with (fail)
            try rw [hg5]
            clear hW5 hg5
            clear x0 x1 x2 x3 x4 x5 xl
            refine (seizeM0_c _ _ _ _ sl0 sl1 sz0 sz1 sn0 sn1 W5 HBX5.out.2 HSL.out).mono ?_
            rintro e w6 hx
            have hx1 := hx.1 HOK.out
            have hx2 : TwS (Ts.mk sl0 sl1 (sz0.set (freeF sz0 0).toNat 1) sz1 sn0 (sn1 ++ [(1, freeF sz0 0)])).l0 (Ts.mk sl0 sl1 (sz0.set (freeF sz0 0).toNat 1) sz1 sn0 (sn1 ++ [(1, freeF sz0 0)])).l1 (Ts.mk sl0 sl1 (sz0.set (freeF sz0 0).toNat 1) sz1 sn0 (sn1 ++ [(1, freeF sz0 0)])).z0 (Ts.mk sl0 sl1 (sz0.set (freeF sz0 0).toNat 1) sz1 sn0 (sn1 ++ [(1, freeF sz0 0)])).z1 (Ts.mk sl0 sl1 (sz0.set (freeF sz0 0).toNat 1) sz1 sn0 (sn1 ++ [(1, freeF sz0 0)])).n0 (Ts.mk sl0 sl1 (sz0.set (freeF sz0 0).toNat 1) sz1 sn0 (sn1 ++ [(1, freeF sz0 0)])).n1 (.int .i64 (freeF sz0 0)) W5 e w6 := hx1
            rw [HN.out] at hx2
            clear hx hx1
            rw [HFC.out] at hx2
            obtain ⟨v0, v1, v2, v3, rfl, oo, bb⟩ := hx2
            have rkM := oo.rd
            obtain ⟨Me0, Mf0, hf0, -⟩ := rkM.r0
            obtain ⟨Me1, Mf1, hf1, -⟩ := rkM.r1
            obtain ⟨Me2, Mf2, hf2, -⟩ := rkM.r2
            obtain ⟨Me3, Mf3, hf3, -⟩ := rkM.r3
            obtain ⟨m0, hm0⟩ : ∃ q, N.z0.length = q := ⟨_, rfl⟩
            rw [hm0] at hf0
            clear hm0
            obtain ⟨m1, hm1⟩ : ∃ q, N.z1.length = q := ⟨_, rfl⟩
            rw [hm1] at hf1
            clear hm1
            obtain ⟨m2, hm2⟩ : ∃ q, N.n0.length = q := ⟨_, rfl⟩
            rw [hm2] at hf2
            clear hm2
            obtain ⟨m3, hm3⟩ : ∃ q, N.n1.length = q := ⟨_, rfl⟩
            rw [hm3] at hf3
            clear hm3
            subst hf0 hf1 hf2 hf3
            rw [HNL.out.1, HNL.out.2]
            obtain ⟨W7, hW7⟩ : ∃ W, w6.alloc (Obj.cells (T6 (.slice Me0 m0 Mf0) (.slice Me1 m1 Mf1) nl0 nl1 (.slice Me2 m2 Mf2) (.slice Me3 m3 Mf3)) 33) = W := ⟨_, rfl⟩
            have al : Below w6.heap.size w6 W7 := by rw [← hW7]; exact (Below.refl _ _).alloc (Nat.le_refl _) _
            have bal : Below W5.heap.size W5 W7 := belowCall bb al bb.size
            have KI7 : Hid (Blk W7 g5 (T6 (.slice Ie0 i0 If0) (.slice Ie1 i1 If1) nl0 nl1 (.slice Ie2 i2 If2) (.slice Ie3 i3 If3)) 33) := KI5.out.below bal KI5.out.lt
            have HRI7 : Hid (Rk W7 (.slice Ie0 i0 If0) (.slice Ie1 i1 If1) (.slice Ie2 i2 If2) (.slice Ie3 i3 If3) N.z0 N.z1 N.n0 N.n1 ∧ (∀ k, InT (.slice Ie0 i0 If0) (.slice Ie1 i1 If1) (.slice Ie2 i2 If2) (.slice Ie3 i3 If3) k → k ≠ gT) ∧ gT < g5) := ⟨HRI5.out.1.below bal, HRI5.out.2⟩
            have HBX7 : Hid (Blk W7 gT (T6 (.slice y0 b0 g0) (.slice y1 b1 g1) sl0 sl1 (.slice y2 b2 g2) (.slice y3 b3 g3)) 33) := HBX5.out.1.below bal HBX5.out.1.lt
            have HB7 : Hid (Below w2.heap.size w2 W7) := belowCall HB5.out bal HB5.out.size
            clear oo bb al bal rkM HBX5 HB5 KI5 HRI5
            obtain ⟨W8, hW8⟩ : ∃ W, st6 W7 gT (.slice Ie0 i0 If0) (.slice Ie1 i1 If1) nl0 nl1 (.slice Ie2 i2 If2) (.slice Ie3 i3 If3) = W := ⟨_, rfl⟩
            have hfr := fr_put6 W7 gT (.slice Ie0 i0 If0) (.slice Ie1 i1 If1) nl0 nl1 (.slice Ie2 i2 If2) (.slice Ie3 i3 If3)
            rw [hW8] at hfr
            have HBX8 : Hid (Blk W8 gT (T6 (.slice Ie0 i0 If0) (.slice Ie1 i1 If1) nl0 nl1 (.slice Ie2 i2 If2) (.slice Ie3 i3 If3)) 33 ∧ Rk W8 (.slice Ie0 i0 If0) (.slice Ie1 i1 If1) (.slice Ie2 i2 If2) (.slice Ie3 i3 If3) N.z0 N.z1 N.n0 N.n1) := ⟨by rw [← hW8]; exact put6 HBX7.out _ _ _ _ _ _, HRI7.out.1.frK hfr (fun k hk e => HRI7.out.2.1 k hk e)⟩
            have HB8 : Hid (Below w2.heap.size w2 W8) := HB7.out.trans (hfr.below HB7.out.size (fun k e => by have := HGT.out; omega))
            clear hfr
            have y0 := KI7.out.cell 0
            have y1 := KI7.out.cell 1
            have y2 := KI7.out.cell 2
            have y3 := KI7.out.cell 3
            have y4 := KI7.out.cell 4
            have y5 := KI7.out.cell 5
            have yl := KI7.out.lt
            simp at y0 y1 y2 y3 y4 y5
            have x0 := HBX7.out.cell 0
            have xf0 := HBX7.out.frozen 0
            have x1 := HBX7.out.cell 1
            have xf1 := HBX7.out.frozen 1
            have x2 := HBX7.out.cell 2
            have xf2 := HBX7.out.frozen 2
            have x3 := HBX7.out.cell 3
            have xf3 := HBX7.out.frozen 3
            have x4 := HBX7.out.cell 4
            have xf4 := HBX7.out.frozen 4
            have x5 := HBX7.out.cell 5
            have xf5 := HBX7.out.frozen 5
            have xl := HBX7.out.lt
            simp at x0 x1 x2 x3 x4 x5
            have r0 := HBX8.out.1.cell 0
            have r1 := HBX8.out.1.cell 1
            have r2 := HBX8.out.1.cell 2
            have r3 := HBX8.out.1.cell 3
            have r4 := HBX8.out.1.cell 4
            have r5 := HBX8.out.1.cell 5
            have rl := HBX8.out.1.lt
            simp at r0 r1 r2 r3 r4 r5
            have hgt := HRI7.out.2.2
            go_wp2_with (fail)
            try rw [hW8]
            clear hW7 hW8 hgt
            clear y0 y1 y2 y3 y4 y5 yl x0 x1 x2 x3 x4 x5 xl r0 r1 r2 r3 r4 r5 rl xf0 xf1 xf2 xf3 xf4 xf5
            refine (okM_c _ _ _ _ nl0 nl1 N.z0 N.z1 N.n0 N.n1 W8 HBX8.out.2).mono ?_
            rintro e w9 ⟨q, rfl, hq, b9⟩
            obtain rfl : q = true := hq.2 (by rw [← HNL.out.1, ← HNL.out.2]; exact HNA.out.1.ok)
            have HBX9 : Hid (Blk w9 gT (T6 (.slice Ie0 i0 If0) (.slice Ie1 i1 If1) nl0 nl1 (.slice Ie2 i2 If2) (.slice Ie3 i3 If3)) 33 ∧ Rk w9 (.slice Ie0 i0 If0) (.slice Ie1 i1 If1) (.slice Ie2 i2 If2) (.slice Ie3 i3 If3) N.z0 N.z1 N.n0 N.n1) := ⟨HBX8.out.1.below b9 HBX8.out.1.lt, HBX8.out.2.below b9⟩
            have HB9 : Hid (Below w2.heap.size w2 w9) := belowCall HB8.out b9 HB8.out.size
            clear hq b9
            go_wp2
            go_roundw
            case rel => exact ⟨j + 1, N, _, _, _, _, asked + 1, left, by go_num, by go_num, by go_num, ⟨by rw [HNL.out.1, HNL.out.2]; exact HBX9.out.1, HBX9.out.2⟩, ⟨HNA.out.1, HNA.out.2, by have := HDA.out.2.2; omega⟩, HB9.out⟩
            case measure => simp [intOf]; omega
          · have HOK : Hid (¬ SzOk0 sz0 sz1 sl0 sl1 sn0 sn1) := hok
            clear hok
            have HNA : Hid (Day nn (Ts.mk sl0 sl1 sz0 sz1 sn0 sn1) ∧ Acc (Ts.mk sl0 sl1 sz0 sz1 sn0 sn1) (asked) (left)) := (⟨HDA.out.1, HDA.out.2.1⟩ : Day nn (Ts.mk sl0 sl1 sz0 sz1 sn0 sn1) ∧ Acc (Ts.mk sl0 sl1 sz0 sz1 sn0 sn1) asked left)
            obtain ⟨N, hN⟩ : ∃ N, (Ts.mk sl0 sl1 sz0 sz1 sn0 sn1) = N := ⟨_, rfl⟩
            have HN : Hid ((Ts.mk sl0 sl1 sz0 sz1 sn0 sn1) = N) := hN
            rw [hN] at HNA
            clear hN
            have x0 := HBXq.out.1.cell 0
            have x1 := HBXq.out.1.cell 1
            have x2 := HBXq.out.1.cell 2
            have x3 := HBXq.out.1.cell 3
            have x4 := HBXq.out.1.cell 4
            have x5 := HBXq.out.1.cell 5
            have xl := HBXq.out.1.lt
            simp at x0 x1 x2 x3 x4 x5
            go_wp2_with (fail)
            clear x0 x1 x2 x3 x4 x5 xl
            refine (seizeI0_c _ _ _ _ sl0 sl1 sz0 sz1 sn0 sn1 wq HBXq.out.2 HSL.out).mono ?_
            rintro e w4 hx
            have hx1 := hx.2 HOK.out
            have hx2 : TwS (Ts.mk sl0 sl1 sz0 sz1 sn0 sn1).l0 (Ts.mk sl0 sl1 sz0 sz1 sn0 sn1).l1 (Ts.mk sl0 sl1 sz0 sz1 sn0 sn1).z0 (Ts.mk sl0 sl1 sz0 sz1 sn0 sn1).z1 (Ts.mk sl0 sl1 sz0 sz1 sn0 sn1).n0 (Ts.mk sl0 sl1 sz0 sz1 sn0 sn1).n1 (.int .i64 (-1)) wq e w4 := hx1
            rw [HN.out] at hx2
            clear hx hx1
            obtain ⟨v0, v1, v2, v3, rfl, oo, bb⟩ := hx2
            have rkI := oo.rd
            obtain ⟨Ie0, If0, hf0, -⟩ := rkI.r0
            obtain ⟨Ie1, If1, hf1, -⟩ := rkI.r1
            obtain ⟨Ie2, If2, hf2, -⟩ := rkI.r2
            obtain ⟨Ie3, If3, hf3, -⟩ := rkI.r3
            obtain ⟨i0, hi0⟩ : ∃ q, N.z0.length = q := ⟨_, rfl⟩
            rw [hi0] at hf0
            clear hi0
            obtain ⟨i1, hi1⟩ : ∃ q, N.z1.length = q := ⟨_, rfl⟩
            rw [hi1] at hf1
            clear hi1
            obtain ⟨i2, hi2⟩ : ∃ q, N.n0.length = q := ⟨_, rfl⟩
            rw [hi2] at hf2
            clear hi2
            obtain ⟨i3, hi3⟩ : ∃ q, N.n1.length = q := ⟨_, rfl⟩
            rw [hi3] at hf3
            clear hi3
            subst hf0 hf1 hf2 hf3
            obtain ⟨nl0, hnl0⟩ : ∃ q, N.l0 = q := ⟨_, rfl⟩
            obtain ⟨nl1, hnl1⟩ : ∃ q, N.l1 = q := ⟨_, rfl⟩
            have HNL : Hid (N.l0 = nl0 ∧ N.l1 = nl1) := ⟨hnl0, hnl1⟩
            rw [hnl0, hnl1]
            clear hnl0 hnl1
            obtain ⟨W5, hW5⟩ : ∃ W, w4.alloc (Obj.cells (T6 (.slice Ie0 i0 If0) (.slice Ie1 i1 If1) nl0 nl1 (.slice Ie2 i2 If2) (.slice Ie3 i3 If3)) 33) = W := ⟨_, rfl⟩
            obtain ⟨g5, hg5⟩ : ∃ k, w4.heap.size = k := ⟨_, rfl⟩
            have al : Below w4.heap.size w4 W5 := by rw [← hW5]; exact (Below.refl _ _).alloc (Nat.le_refl _) _
            have bal : Below wq.heap.size wq W5 := belowCall bb al bb.size
            have KI5 : Hid (Blk W5 g5 (T6 (.slice Ie0 i0 If0) (.slice Ie1 i1 If1) nl0 nl1 (.slice Ie2 i2 If2) (.slice Ie3 i3 If3)) 33) := by rw [← hW5, ← hg5]; exact Blk.new _ _ _
            have HRI5 : Hid (Rk W5 (.slice Ie0 i0 If0) (.slice Ie1 i1 If1) (.slice Ie2 i2 If2) (.slice Ie3 i3 If3) N.z0 N.z1 N.n0 N.n1 ∧ (∀ k, InT (.slice Ie0 i0 If0) (.slice Ie1 i1 If1) (.slice Ie2 i2 If2) (.slice Ie3 i3 If3) k → k ≠ gT) ∧ gT < g5) := ⟨rkI.below al, fun k hk => by have h1 := oo.ge k hk; have h2 := HBXq.out.1.lt; omega, by have h2 := HBXq.out.1.lt; have := bb.size; omega⟩
            have HBX5 : Hid (Blk W5 gT (T6 (.slice y0 b0 g0) (.slice y1 b1 g1) sl0 sl1 (.slice y2 b2 g2) (.slice y3 b3 g3)) 33 ∧ Rk W5 (.slice y0 b0 g0) (.slice y1 b1 g1) (.slice y2 b2 g2) (.slice y3 b3 g3) sz0 sz1 sn0 sn1) := ⟨HBXq.out.1.below bal HBXq.out.1.lt, HBXq.out.2.below bal⟩
            have HB5 : Hid (Below w2.heap.size w2 W5) := belowCall HBq.out bal HBq.out.size
            clear oo bb al bal rkI HBXq HBq
            have x0 := HBX5.out.1.cell 0
            have x1 := HBX5.out.1.cell 1
            have x2 := HBX5.out.1.cell 2
            have x3 := HBX5.out.1.cell 3
            have x4 := HBX5.out.1.cell 4
            have x5 := HBX5.out.1.cell 5
            have xl := HBX5.out.1.lt
            simp at x0 x1 x2 x3 x4 x5
            go_wp2_with (fail)
            try rw [hg5]
            clear hW5 hg5
            clear x0 x1 x2 x3 x4 x5 xl
            refine (seizeM0_c _ _ _ _ sl0 sl1 sz0 sz1 sn0 sn1 W5 HBX5.out.2 HSL.out).mono ?_
            rintro e w6 hx
            have hx1 := hx.2 HOK.out
            have hx2 : TwS (Ts.mk sl0 sl1 sz0 sz1 sn0 sn1).l0 (Ts.mk sl0 sl1 sz0 sz1 sn0 sn1).l1 (Ts.mk sl0 sl1 sz0 sz1 sn0 sn1).z0 (Ts.mk sl0 sl1 sz0 sz1 sn0 sn1).z1 (Ts.mk sl0 sl1 sz0 sz1 sn0 sn1).n0 (Ts.mk sl0 sl1 sz0 sz1 sn0 sn1).n1 (.int .i64 (-1)) W5 e w6 := hx1
            rw [HN.out] at hx2
            clear hx hx1
            obtain ⟨v0, v1, v2, v3, rfl, oo, bb⟩ := hx2
            have rkM := oo.rd
            obtain ⟨Me0, Mf0, hf0, -⟩ := rkM.r0
            obtain ⟨Me1, Mf1, hf1, -⟩ := rkM.r1
            obtain ⟨Me2, Mf2, hf2, -⟩ := rkM.r2
            obtain ⟨Me3, Mf3, hf3, -⟩ := rkM.r3
            obtain ⟨m0, hm0⟩ : ∃ q, N.z0.length = q := ⟨_, rfl⟩
            rw [hm0] at hf0
            clear hm0
            obtain ⟨m1, hm1⟩ : ∃ q, N.z1.length = q := ⟨_, rfl⟩
            rw [hm1] at hf1
            clear hm1
            obtain ⟨m2, hm2⟩ : ∃ q, N.n0.length = q := ⟨_, rfl⟩
            rw [hm2] at hf2
            clear hm2
            obtain ⟨m3, hm3⟩ : ∃ q, N.n1.length = q := ⟨_, rfl⟩
            rw [hm3] at hf3
            clear hm3
            subst hf0 hf1 hf2 hf3
            rw [HNL.out.1, HNL.out.2]
            obtain ⟨W7, hW7⟩ : ∃ W, w6.alloc (Obj.cells (T6 (.slice Me0 m0 Mf0) (.slice Me1 m1 Mf1) nl0 nl1 (.slice Me2 m2 Mf2) (.slice Me3 m3 Mf3)) 33) = W := ⟨_, rfl⟩
            have al : Below w6.heap.size w6 W7 := by rw [← hW7]; exact (Below.refl _ _).alloc (Nat.le_refl _) _
            have bal : Below W5.heap.size W5 W7 := belowCall bb al bb.size
            have KI7 : Hid (Blk W7 g5 (T6 (.slice Ie0 i0 If0) (.slice Ie1 i1 If1) nl0 nl1 (.slice Ie2 i2 If2) (.slice Ie3 i3 If3)) 33) := KI5.out.below bal KI5.out.lt
            have HRI7 : Hid (Rk W7 (.slice Ie0 i0 If0) (.slice Ie1 i1 If1) (.slice Ie2 i2 If2) (.slice Ie3 i3 If3) N.z0 N.z1 N.n0 N.n1 ∧ (∀ k, InT (.slice Ie0 i0 If0) (.slice Ie1 i1 If1) (.slice Ie2 i2 If2) (.slice Ie3 i3 If3) k → k ≠ gT) ∧ gT < g5) := ⟨HRI5.out.1.below bal, HRI5.out.2⟩
            have HBX7 : Hid (Blk W7 gT (T6 (.slice y0 b0 g0) (.slice y1 b1 g1) sl0 sl1 (.slice y2 b2 g2) (.slice y3 b3 g3)) 33) := HBX5.out.1.below bal HBX5.out.1.lt
            have HB7 : Hid (Below w2.heap.size w2 W7) := belowCall HB5.out bal HB5.out.size
            clear oo bb al bal rkM HBX5 HB5 KI5 HRI5
            obtain ⟨W8, hW8⟩ : ∃ W, st6 W7 gT (.slice Ie0 i0 If0) (.slice Ie1 i1 If1) nl0 nl1 (.slice Ie2 i2 If2) (.slice Ie3 i3 If3) = W := ⟨_, rfl⟩
            have hfr := fr_put6 W7 gT (.slice Ie0 i0 If0) (.slice Ie1 i1 If1) nl0 nl1 (.slice Ie2 i2 If2) (.slice Ie3 i3 If3)
            rw [hW8] at hfr
            have HBX8 : Hid (Blk W8 gT (T6 (.slice Ie0 i0 If0) (.slice Ie1 i1 If1) nl0 nl1 (.slice Ie2 i2 If2) (.slice Ie3 i3 If3)) 33 ∧ Rk W8 (.slice Ie0 i0 If0) (.slice Ie1 i1 If1) (.slice Ie2 i2 If2) (.slice Ie3 i3 If3) N.z0 N.z1 N.n0 N.n1) := ⟨by rw [← hW8]; exact put6 HBX7.out _ _ _ _ _ _, HRI7.out.1.frK hfr (fun k hk e => HRI7.out.2.1 k hk e)⟩
            have HB8 : Hid (Below w2.heap.size w2 W8) := HB7.out.trans (hfr.below HB7.out.size (fun k e => by have := HGT.out; omega))
            clear hfr
            have y0 := KI7.out.cell 0
            have y1 := KI7.out.cell 1
            have y2 := KI7.out.cell 2
            have y3 := KI7.out.cell 3
            have y4 := KI7.out.cell 4
            have y5 := KI7.out.cell 5
            have yl := KI7.out.lt
            simp at y0 y1 y2 y3 y4 y5
            have x0 := HBX7.out.cell 0
            have xf0 := HBX7.out.frozen 0
            have x1 := HBX7.out.cell 1
            have xf1 := HBX7.out.frozen 1
            have x2 := HBX7.out.cell 2
            have xf2 := HBX7.out.frozen 2
            have x3 := HBX7.out.cell 3
            have xf3 := HBX7.out.frozen 3
            have x4 := HBX7.out.cell 4
            have xf4 := HBX7.out.frozen 4
            have x5 := HBX7.out.cell 5
            have xf5 := HBX7.out.frozen 5
            have xl := HBX7.out.lt
            simp at x0 x1 x2 x3 x4 x5
            have r0 := HBX8.out.1.cell 0
            have r1 := HBX8.out.1.cell 1
            have r2 := HBX8.out.1.cell 2
            have r3 := HBX8.out.1.cell 3
            have r4 := HBX8.out.1.cell 4
            have r5 := HBX8.out.1.cell 5
            have rl := HBX8.out.1.lt
            simp at r0 r1 r2 r3 r4 r5
            have hgt := HRI7.out.2.2
            go_wp2_with (fail)
            try rw [hW8]
            clear hW7 hW8 hgt
            clear y0 y1 y2 y3 y4 y5 yl x0 x1 x2 x3 x4 x5 xl r0 r1 r2 r3 r4 r5 rl xf0 xf1 xf2 xf3 xf4 xf5
            refine (okM_c _ _ _ _ nl0 nl1 N.z0 N.z1 N.n0 N.n1 W8 HBX8.out.2).mono ?_
            rintro e w9 ⟨q, rfl, hq, b9⟩
            obtain rfl : q = true := hq.2 (by rw [← HNL.out.1, ← HNL.out.2]; exact HNA.out.1.ok)
            have HBX9 : Hid (Blk w9 gT (T6 (.slice Ie0 i0 If0) (.slice Ie1 i1 If1) nl0 nl1 (.slice Ie2 i2 If2) (.slice Ie3 i3 If3)) 33 ∧ Rk w9 (.slice Ie0 i0 If0) (.slice Ie1 i1 If1) (.slice Ie2 i2 If2) (.slice Ie3 i3 If3) N.z0 N.z1 N.n0 N.n1) := ⟨HBX8.out.1.below b9 HBX8.out.1.lt, HBX8.out.2.below b9⟩
            have HB9 : Hid (Below w2.heap.size w2 w9) := belowCall HB8.out b9 HB8.out.size
            clear hq b9
            go_wp2
            go_roundw
            case rel => exact ⟨j + 1, N, _, _, _, _, asked, left, by go_num, by go_num, by go_num, ⟨by rw [HNL.out.1, HNL.out.2]; exact HBX9.out.1, HBX9.out.2⟩, ⟨HNA.out.1, HNA.out.2, by have := HDA.out.2.2; omega⟩, HB9.out⟩
            case measure => simp [intOf]; omega
        · subst hsd
          by_cases hok : SzOk1 sz0 sz1 sl0 sl1 sn0 sn1
          · have HOK : Hid (SzOk1 sz0 sz1 sl0 sl1 sn0 sn1) := hok
            clear hok
            have HNA : Hid (Day nn (Ts.mk sl0 sl1 sz0 (sz1.set (freeF sz1 1).toNat 1) (sn0 ++ [(1, freeF sz1 1)]) sn1) ∧ Acc (Ts.mk sl0 sl1 sz0 (sz1.set (freeF sz1 1).toNat 1) (sn0 ++ [(1, freeF sz1 1)]) sn1) (asked + 1) (left)) := (HDA.out.1.sz1 HDA.out.2.1 HOK.out)
            have hfp : 0 ≤ freeF sz1 1 := HOK.out.2.1
            obtain ⟨fc, hfc⟩ : ∃ q, freeF sz1 1 = q := ⟨_, rfl⟩
            have hfp' : 0 ≤ fc := by rw [← hfc]; exact hfp
            have HFC : Hid (freeF sz1 1 = fc) := hfc
            clear hfp hfc
            have hxx : (fc != fc) = false := by simp
            obtain ⟨N, hN⟩ : ∃ N, (Ts.mk sl0 sl1 sz0 (sz1.set (freeF sz1 1).toNat 1) (sn0 ++ [(1, freeF sz1 1)]) sn1) = N := ⟨_, rfl⟩
            have HN : Hid ((Ts.mk sl0 sl1 sz0 (sz1.set (freeF sz1 1).toNat 1) (sn0 ++ [(1, freeF sz1 1)]) sn1) = N) := hN
            rw [hN] at HNA
            clear hN
            have x0 := HBXq.out.1.cell 0
            have x1 := HBXq.out.1.cell 1
            have x2 := HBXq.out.1.cell 2
            have x3 := HBXq.out.1.cell 3
            have x4 := HBXq.out.1.cell 4
            have x5 := HBXq.out.1.cell 5
            have xl := HBXq.out.1.lt
            simp at x0 x1 x2 x3 x4 x5
            go_wp2_with (fail)
            clear x0 x1 x2 x3 x4 x5 xl
            refine (seizeI1_c _ _ _ _ sl0 sl1 sz0 sz1 sn0 sn1 wq HBXq.out.2 HSL.out).mono ?_
            rintro e w4 hx
            have hx1 := hx.1 HOK.out
            have hx2 : TwS (Ts.mk sl0 sl1 sz0 (sz1.set (freeF sz1 1).toNat 1) (sn0 ++ [(1, freeF sz1 1)]) sn1).l0 (Ts.mk sl0 sl1 sz0 (sz1.set (freeF sz1 1).toNat 1) (sn0 ++ [(1, freeF sz1 1)]) sn1).l1 (Ts.mk sl0 sl1 sz0 (sz1.set (freeF sz1 1).toNat 1) (sn0 ++ [(1, freeF sz1 1)]) sn1).z0 (Ts.mk sl0 sl1 sz0 (sz1.set (freeF sz1 1).toNat 1) (sn0 ++ [(1, freeF sz1 1)]) sn1).z1 (Ts.mk sl0 sl1 sz0 (sz1.set (freeF sz1 1).toNat 1) (sn0 ++ [(1, freeF sz1 1)]) sn1).n0 (Ts.mk sl0 sl1 sz0 (sz1.set (freeF sz1 1).toNat 1) (sn0 ++ [(1, freeF sz1 1)]) sn1).n1 (.int .i64 (freeF sz1 1)) wq e w4 := hx1
            rw [HN.out] at hx2
            clear hx hx1
            rw [HFC.out] at hx2
            obtain ⟨v0, v1, v2, v3, rfl, oo, bb⟩ := hx2
            have rkI := oo.rd
            obtain ⟨Ie0, If0, hf0, -⟩ := rkI.r0
            obtain ⟨Ie1, If1, hf1, -⟩ := rkI.r1
            obtain ⟨Ie2, If2, hf2, -⟩ := rkI.r2
            obtain ⟨Ie3, If3, hf3, -⟩ := rkI.r3
            obtain ⟨i0, hi0⟩ : ∃ q, N.z0.length = q := ⟨_, rfl⟩
            rw [hi0] at hf0
            clear hi0
            obtain ⟨i1, hi1⟩ : ∃ q, N.z1.length = q := ⟨_, rfl⟩
            rw [hi1] at hf1
            clear hi1
            obtain ⟨i2, hi2⟩ : ∃ q, N.n0.length = q := ⟨_, rfl⟩
            rw [hi2] at hf2
            clear hi2
            obtain ⟨i3, hi3⟩ : ∃ q, N.n1.length = q := ⟨_, rfl⟩
            rw [hi3] at hf3
            clear hi3
            subst hf0 hf1 hf2 hf3
            obtain ⟨nl0, hnl0⟩ : ∃ q, N.l0 = q := ⟨_, rfl⟩
            obtain ⟨nl1, hnl1⟩ : ∃ q, N.l1 = q := ⟨_, rfl⟩
            have HNL : Hid (N.l0 = nl0 ∧ N.l1 = nl1) := ⟨hnl0, hnl1⟩
            rw [hnl0, hnl1]
            clear hnl0 hnl1
            obtain ⟨W5, hW5⟩ : ∃ W, w4.alloc (Obj.cells (T6 (.slice Ie0 i0 If0) (.slice Ie1 i1 If1) nl0 nl1 (.slice Ie2 i2 If2) (.slice Ie3 i3 If3)) 33) = W := ⟨_, rfl⟩
            obtain ⟨g5, hg5⟩ : ∃ k, w4.heap.size = k := ⟨_, rfl⟩
            have al : Below w4.heap.size w4 W5 := by rw [← hW5]; exact (Below.refl _ _).alloc (Nat.le_refl _) _
            have bal : Below wq.heap.size wq W5 := belowCall bb al bb.size
            have KI5 : Hid (Blk W5 g5 (T6 (.slice Ie0 i0 If0) (.slice Ie1 i1 If1) nl0 nl1 (.slice Ie2 i2 If2) (.slice Ie3 i3 If3)) 33) := by rw [← hW5, ← hg5]; exact Blk.new _ _ _
            have HRI5 : Hid (Rk W5 (.slice Ie0 i0 If0) (.slice Ie1 i1 If1) (.slice Ie2 i2 If2) (.slice Ie3 i3 If3) N.z0 N.z1 N.n0 N.n1 ∧ (∀ k, InT (.slice Ie0 i0 If0) (.slice Ie1 i1 If1) (.slice Ie2 i2 If2) (.slice Ie3 i3 If3) k → k ≠ gT) ∧ gT < g5) := ⟨rkI.below al, fun k hk => by have h1 := oo.ge k hk; have h2 := HBXq.out.1.lt; omega, by have h2 := HBXq.out.1.lt; have := bb.size; omega⟩
            have HBX5 : Hid (Blk W5 gT (T6 (.slice y0 b0 g0) (.slice y1 b1 g1) sl0 sl1 (.slice y2 b2 g2) (.slice y3 b3 g3)) 33 ∧ Rk W5 (.slice y0 b0 g0) (.slice y1 b1 g1) (.slice y2 b2 g2) (.slice y3 b3 g3) sz0 sz1 sn0 sn1) := ⟨HBXq.out.1.below bal HBXq.out.1.lt, HBXq.out.2.below bal⟩
            have HB5 : Hid (Below w2.heap.size w2 W5) := belowCall HBq.out bal HBq.out.size
            clear oo bb al bal rkI HBXq HBq
            have x0 := HBX5.out.1.cell 0
            have x1 := HBX5.out.1.cell 1
            have x2 := HBX5.out.1.cell 2
            have x3 := HBX5.out.1.cell 3
            have x4 := HBX5.out.1.cell 4
            have x5 := HBX5.out.1.cell 5
            have xl := HBX5.out.1.lt
            simp at x0 x1 x2 x3 x4 x5
            go_wp2_with (fail)
            try rw [hg5]
            clear hW5 hg5
            clear x0 x1 x2 x3 x4 x5 xl
            refine (seizeM1_c _ _ _ _ sl0 sl1 sz0 sz1 sn0 sn1 W5 HBX5.out.2 HSL.out).mono ?_
            rintro e w6 hx
            have hx1 := hx.1 HOK.out
            have hx2 : TwS (Ts.mk sl0 sl1 sz0 (sz1.set (freeF sz1 1).toNat 1) (sn0 ++ [(1, freeF sz1 1)]) sn1).l0 (Ts.mk sl0 sl1 sz0 (sz1.set (freeF sz1 1).toNat 1) (sn0 ++ [(1, freeF sz1 1)]) sn1).l1 (Ts.mk sl0 sl1 sz0 (sz1.set (freeF sz1 1).toNat 1) (sn0 ++ [(1, freeF sz1 1)]) sn1).z0 (Ts.mk sl0 sl1 sz0 (sz1.set (freeF sz1 1).toNat 1) (sn0 ++ [(1, freeF sz1 1)]) sn1).z1 (Ts.mk sl0 sl1 sz0 (sz1.set (freeF sz1 1).toNat 1) (sn0 ++ [(1, freeF sz1 1)]) sn1).n0 (Ts.mk sl0 sl1 sz0 (sz1.set (freeF sz1 1).toNat 1) (sn0 ++ [(1, freeF sz1 1)]) sn1).n1 (.int .i64 (freeF sz1 1)) W5 e w6 := hx1
            rw [HN.out] at hx2
            clear hx hx1
            rw [HFC.out] at hx2
            obtain ⟨v0, v1, v2, v3, rfl, oo, bb⟩ := hx2
            have rkM := oo.rd
            obtain ⟨Me0, Mf0, hf0, -⟩ := rkM.r0
            obtain ⟨Me1, Mf1, hf1, -⟩ := rkM.r1
            obtain ⟨Me2, Mf2, hf2, -⟩ := rkM.r2
            obtain ⟨Me3, Mf3, hf3, -⟩ := rkM.r3
            obtain ⟨m0, hm0⟩ : ∃ q, N.z0.length = q := ⟨_, rfl⟩
            rw [hm0] at hf0
            clear hm0
            obtain ⟨m1, hm1⟩ : ∃ q, N.z1.length = q := ⟨_, rfl⟩
            rw [hm1] at hf1
            clear hm1
            obtain ⟨m2, hm2⟩ : ∃ q, N.n0.length = q := ⟨_, rfl⟩
            rw [hm2] at hf2
            clear hm2
            obtain ⟨m3, hm3⟩ : ∃ q, N.n1.length = q := ⟨_, rfl⟩
            rw [hm3] at hf3
            clear hm3
            subst hf0 hf1 hf2 hf3
            rw [HNL.out.1, HNL.out.2]
            obtain ⟨W7, hW7⟩ : ∃ W, w6.alloc (Obj.cells (T6 (.slice Me0 m0 Mf0) (.slice Me1 m1 Mf1) nl0 nl1 (.slice Me2 m2 Mf2) (.slice Me3 m3 Mf3)) 33) = W := ⟨_, rfl⟩
            have al : Below w6.heap.size w6 W7 := by rw [← hW7]; exact (Below.refl _ _).alloc (Nat.le_refl _) _
            have bal : Below W5.heap.size W5 W7 := belowCall bb al bb.size
            have KI7 : Hid (Blk W7 g5 (T6 (.slice Ie0 i0 If0) (.slice Ie1 i1 If1) nl0 nl1 (.slice Ie2 i2 If2) (.slice Ie3 i3 If3)) 33) := KI5.out.below bal KI5.out.lt
            have HRI7 : Hid (Rk W7 (.slice Ie0 i0 If0) (.slice Ie1 i1 If1) (.slice Ie2 i2 If2) (.slice Ie3 i3 If3) N.z0 N.z1 N.n0 N.n1 ∧ (∀ k, InT (.slice Ie0 i0 If0) (.slice Ie1 i1 If1) (.slice Ie2 i2 If2) (.slice Ie3 i3 If3) k → k ≠ gT) ∧ gT < g5) := ⟨HRI5.out.1.below bal, HRI5.out.2⟩
            have HBX7 : Hid (Blk W7 gT (T6 (.slice y0 b0 g0) (.slice y1 b1 g1) sl0 sl1 (.slice y2 b2 g2) (.slice y3 b3 g3)) 33) := HBX5.out.1.below bal HBX5.out.1.lt
            have HB7 : Hid (Below w2.heap.size w2 W7) := belowCall HB5.out bal HB5.out.size
            clear oo bb al bal rkM HBX5 HB5 KI5 HRI5
            obtain ⟨W8, hW8⟩ : ∃ W, st6 W7 gT (.slice Ie0 i0 If0) (.slice Ie1 i1 If1) nl0 nl1 (.slice Ie2 i2 If2) (.slice Ie3 i3 If3) = W := ⟨_, rfl⟩
            have hfr := fr_put6 W7 gT (.slice Ie0 i0 If0) (.slice Ie1 i1 If1) nl0 nl1 (.slice Ie2 i2 If2) (.slice Ie3 i3 If3)
            rw [hW8] at hfr
            have HBX8 : Hid (Blk W8 gT (T6 (.slice Ie0 i0 If0) (.slice Ie1 i1 If1) nl0 nl1 (.slice Ie2 i2 If2) (.slice Ie3 i3 If3)) 33 ∧ Rk W8 (.slice Ie0 i0 If0) (.slice Ie1 i1 If1) (.slice Ie2 i2 If2) (.slice Ie3 i3 If3) N.z0 N.z1 N.n0 N.n1) := ⟨by rw [← hW8]; exact put6 HBX7.out _ _ _ _ _ _, HRI7.out.1.frK hfr (fun k hk e => HRI7.out.2.1 k hk e)⟩
            have HB8 : Hid (Below w2.heap.size w2 W8) := HB7.out.trans (hfr.below HB7.out.size (fun k e => by have := HGT.out; omega))
            clear hfr
            have y0 := KI7.out.cell 0
            have y1 := KI7.out.cell 1
            have y2 := KI7.out.cell 2
            have y3 := KI7.out.cell 3
            have y4 := KI7.out.cell 4
            have y5 := KI7.out.cell 5
            have yl := KI7.out.lt
            simp at y0 y1 y2 y3 y4 y5
            have x0 := HBX7.out.cell 0
            have xf0 := HBX7.out.frozen 0
            have x1 := HBX7.out.cell 1
            have xf1 := HBX7.out.frozen 1
            have x2 := HBX7.out.cell 2
            have xf2 := HBX7.out.frozen 2
            have x3 := HBX7.out.cell 3
            have xf3 := HBX7.out.frozen 3
            have x4 := HBX7.out.cell 4
            have xf4 := HBX7.out.frozen 4
            have x5 := HBX7.out.cell 5
            have xf5 := HBX7.out.frozen 5
            have xl := HBX7.out.lt
            simp at x0 x1 x2 x3 x4 x5
            have r0 := HBX8.out.1.cell 0
            have r1 := HBX8.out.1.cell 1
            have r2 := HBX8.out.1.cell 2
            have r3 := HBX8.out.1.cell 3
            have r4 := HBX8.out.1.cell 4
            have r5 := HBX8.out.1.cell 5
            have rl := HBX8.out.1.lt
            simp at r0 r1 r2 r3 r4 r5
            have hgt := HRI7.out.2.2
            go_wp2_with (fail)
            try rw [hW8]
            clear hW7 hW8 hgt
            clear y0 y1 y2 y3 y4 y5 yl x0 x1 x2 x3 x4 x5 xl r0 r1 r2 r3 r4 r5 rl xf0 xf1 xf2 xf3 xf4 xf5
            refine (okM_c _ _ _ _ nl0 nl1 N.z0 N.z1 N.n0 N.n1 W8 HBX8.out.2).mono ?_
            rintro e w9 ⟨q, rfl, hq, b9⟩
            obtain rfl : q = true := hq.2 (by rw [← HNL.out.1, ← HNL.out.2]; exact HNA.out.1.ok)
            have HBX9 : Hid (Blk w9 gT (T6 (.slice Ie0 i0 If0) (.slice Ie1 i1 If1) nl0 nl1 (.slice Ie2 i2 If2) (.slice Ie3 i3 If3)) 33 ∧ Rk w9 (.slice Ie0 i0 If0) (.slice Ie1 i1 If1) (.slice Ie2 i2 If2) (.slice Ie3 i3 If3) N.z0 N.z1 N.n0 N.n1) := ⟨HBX8.out.1.below b9 HBX8.out.1.lt, HBX8.out.2.below b9⟩
            have HB9 : Hid (Below w2.heap.size w2 w9) := belowCall HB8.out b9 HB8.out.size
            clear hq b9
            go_wp2
            go_roundw
            case rel => exact ⟨j + 1, N, _, _, _, _, asked + 1, left, by go_num, by go_num, by go_num, ⟨by rw [HNL.out.1, HNL.out.2]; exact HBX9.out.1, HBX9.out.2⟩, ⟨HNA.out.1, HNA.out.2, by have := HDA.out.2.2; omega⟩, HB9.out⟩
            case measure => simp [intOf]; omega
          · have HOK : Hid (¬ SzOk1 sz0 sz1 sl0 sl1 sn0 sn1) := hok
            clear hok
            have HNA : Hid (Day nn (Ts.mk sl0 sl1 sz0 sz1 sn0 sn1) ∧ Acc (Ts.mk sl0 sl1 sz0 sz1 sn0 sn1) (asked) (left)) := (⟨HDA.out.1, HDA.out.2.1⟩ : Day nn (Ts.mk sl0 sl1 sz0 sz1 sn0 sn1) ∧ Acc (Ts.mk sl0 sl1 sz0 sz1 sn0 sn1) asked left)
            obtain ⟨N, hN⟩ : ∃ N, (Ts.mk sl0 sl1 sz0 sz1 sn0 sn1) = N := ⟨_, rfl⟩
            have HN : Hid ((Ts.mk sl0 sl1 sz0 sz1 sn0 sn1) = N) := hN
            rw [hN] at HNA
            clear hN
            have x0 := HBXq.out.1.cell 0
            have x1 := HBXq.out.1.cell 1
            have x2 := HBXq.out.1.cell 2
            have x3 := HBXq.out.1.cell 3
            have x4 := HBXq.out.1.cell 4
            have x5 := HBXq.out.1.cell 5
            have xl := HBXq.out.1.lt
            simp at x0 x1 x2 x3 x4 x5
            go_wp2_with (fail)
            clear x0 x1 x2 x3 x4 x5 xl
            refine (seizeI1_c _ _ _ _ sl0 sl1 sz0 sz1 sn0 sn1 wq HBXq.out.2 HSL.out).mono ?_
            rintro e w4 hx
            have hx1 := hx.2 HOK.out
            have hx2 : TwS (Ts.mk sl0 sl1 sz0 sz1 sn0 sn1).l0 (Ts.mk sl0 sl1 sz0 sz1 sn0 sn1).l1 (Ts.mk sl0 sl1 sz0 sz1 sn0 sn1).z0 (Ts.mk sl0 sl1 sz0 sz1 sn0 sn1).z1 (Ts.mk sl0 sl1 sz0 sz1 sn0 sn1).n0 (Ts.mk sl0 sl1 sz0 sz1 sn0 sn1).n1 (.int .i64 (-1)) wq e w4 := hx1
            rw [HN.out] at hx2
            clear hx hx1
            obtain ⟨v0, v1, v2, v3, rfl, oo, bb⟩ := hx2
            have rkI := oo.rd
            obtain ⟨Ie0, If0, hf0, -⟩ := rkI.r0
            obtain ⟨Ie1, If1, hf1, -⟩ := rkI.r1
            obtain ⟨Ie2, If2, hf2, -⟩ := rkI.r2
            obtain ⟨Ie3, If3, hf3, -⟩ := rkI.r3
            obtain ⟨i0, hi0⟩ : ∃ q, N.z0.length = q := ⟨_, rfl⟩
            rw [hi0] at hf0
            clear hi0
            obtain ⟨i1, hi1⟩ : ∃ q, N.z1.length = q := ⟨_, rfl⟩
            rw [hi1] at hf1
            clear hi1
            obtain ⟨i2, hi2⟩ : ∃ q, N.n0.length = q := ⟨_, rfl⟩
            rw [hi2] at hf2
            clear hi2
            obtain ⟨i3, hi3⟩ : ∃ q, N.n1.length = q := ⟨_, rfl⟩
            rw [hi3] at hf3
            clear hi3
            subst hf0 hf1 hf2 hf3
            obtain ⟨nl0, hnl0⟩ : ∃ q, N.l0 = q := ⟨_, rfl⟩
            obtain ⟨nl1, hnl1⟩ : ∃ q, N.l1 = q := ⟨_, rfl⟩
            have HNL : Hid (N.l0 = nl0 ∧ N.l1 = nl1) := ⟨hnl0, hnl1⟩
            rw [hnl0, hnl1]
            clear hnl0 hnl1
            obtain ⟨W5, hW5⟩ : ∃ W, w4.alloc (Obj.cells (T6 (.slice Ie0 i0 If0) (.slice Ie1 i1 If1) nl0 nl1 (.slice Ie2 i2 If2) (.slice Ie3 i3 If3)) 33) = W := ⟨_, rfl⟩
            obtain ⟨g5, hg5⟩ : ∃ k, w4.heap.size = k := ⟨_, rfl⟩
            have al : Below w4.heap.size w4 W5 := by rw [← hW5]; exact (Below.refl _ _).alloc (Nat.le_refl _) _
            have bal : Below wq.heap.size wq W5 := belowCall bb al bb.size
            have KI5 : Hid (Blk W5 g5 (T6 (.slice Ie0 i0 If0) (.slice Ie1 i1 If1) nl0 nl1 (.slice Ie2 i2 If2) (.slice Ie3 i3 If3)) 33) := by rw [← hW5, ← hg5]; exact Blk.new _ _ _
            have HRI5 : Hid (Rk W5 (.slice Ie0 i0 If0) (.slice Ie1 i1 If1) (.slice Ie2 i2 If2) (.slice Ie3 i3 If3) N.z0 N.z1 N.n0 N.n1 ∧ (∀ k, InT (.slice Ie0 i0 If0) (.slice Ie1 i1 If1) (.slice Ie2 i2 If2) (.slice Ie3 i3 If3) k → k ≠ gT) ∧ gT < g5) := ⟨rkI.below al, fun k hk => by have h1 := oo.ge k hk; have h2 := HBXq.out.1.lt; omega, by have h2 := HBXq.out.1.lt; have := bb.size; omega⟩
            have HBX5 : Hid (Blk W5 gT (T6 (.slice y0 b0 g0) (.slice y1 b1 g1) sl0 sl1 (.slice y2 b2 g2) (.slice y3 b3 g3)) 33 ∧ Rk W5 (.slice y0 b0 g0) (.slice y1 b1 g1) (.slice y2 b2 g2) (.slice y3 b3 g3) sz0 sz1 sn0 sn1) := ⟨HBXq.out.1.below bal HBXq.out.1.lt, HBXq.out.2.below bal⟩
            have HB5 : Hid (Below w2.heap.size w2 W5) := belowCall HBq.out bal HBq.out.size
            clear oo bb al bal rkI HBXq HBq
            have x0 := HBX5.out.1.cell 0
            have x1 := HBX5.out.1.cell 1
            have x2 := HBX5.out.1.cell 2
            have x3 := HBX5.out.1.cell 3
            have x4 := HBX5.out.1.cell 4
            have x5 := HBX5.out.1.cell 5
            have xl := HBX5.out.1.lt
            simp at x0 x1 x2 x3 x4 x5
            go_wp2_with (fail)
            try rw [hg5]
            clear hW5 hg5
            clear x0 x1 x2 x3 x4 x5 xl
            refine (seizeM1_c _ _ _ _ sl0 sl1 sz0 sz1 sn0 sn1 W5 HBX5.out.2 HSL.out).mono ?_
            rintro e w6 hx
            have hx1 := hx.2 HOK.out
            have hx2 : TwS (Ts.mk sl0 sl1 sz0 sz1 sn0 sn1).l0 (Ts.mk sl0 sl1 sz0 sz1 sn0 sn1).l1 (Ts.mk sl0 sl1 sz0 sz1 sn0 sn1).z0 (Ts.mk sl0 sl1 sz0 sz1 sn0 sn1).z1 (Ts.mk sl0 sl1 sz0 sz1 sn0 sn1).n0 (Ts.mk sl0 sl1 sz0 sz1 sn0 sn1).n1 (.int .i64 (-1)) W5 e w6 := hx1
            rw [HN.out] at hx2
            clear hx hx1
            obtain ⟨v0, v1, v2, v3, rfl, oo, bb⟩ := hx2
            have rkM := oo.rd
            obtain ⟨Me0, Mf0, hf0, -⟩ := rkM.r0
            obtain ⟨Me1, Mf1, hf1, -⟩ := rkM.r1
            obtain ⟨Me2, Mf2, hf2, -⟩ := rkM.r2
            obtain ⟨Me3, Mf3, hf3, -⟩ := rkM.r3
            obtain ⟨m0, hm0⟩ : ∃ q, N.z0.length = q := ⟨_, rfl⟩
            rw [hm0] at hf0
            clear hm0
            obtain ⟨m1, hm1⟩ : ∃ q, N.z1.length = q := ⟨_, rfl⟩
            rw [hm1] at hf1
            clear hm1
            obtain ⟨m2, hm2⟩ : ∃ q, N.n0.length = q := ⟨_, rfl⟩
            rw [hm2] at hf2
            clear hm2
            obtain ⟨m3, hm3⟩ : ∃ q, N.n1.length = q := ⟨_, rfl⟩
            rw [hm3] at hf3
            clear hm3
            subst hf0 hf1 hf2 hf3
            rw [HNL.out.1, HNL.out.2]
            obtain ⟨W7, hW7⟩ : ∃ W, w6.alloc (Obj.cells (T6 (.slice Me0 m0 Mf0) (.slice Me1 m1 Mf1) nl0 nl1 (.slice Me2 m2 Mf2) (.slice Me3 m3 Mf3)) 33) = W := ⟨_, rfl⟩
            have al : Below w6.heap.size w6 W7 := by rw [← hW7]; exact (Below.refl _ _).alloc (Nat.le_refl _) _
            have bal : Below W5.heap.size W5 W7 := belowCall bb al bb.size
            have KI7 : Hid (Blk W7 g5 (T6 (.slice Ie0 i0 If0) (.slice Ie1 i1 If1) nl0 nl1 (.slice Ie2 i2 If2) (.slice Ie3 i3 If3)) 33) := KI5.out.below bal KI5.out.lt
            have HRI7 : Hid (Rk W7 (.slice Ie0 i0 If0) (.slice Ie1 i1 If1) (.slice Ie2 i2 If2) (.slice Ie3 i3 If3) N.z0 N.z1 N.n0 N.n1 ∧ (∀ k, InT (.slice Ie0 i0 If0) (.slice Ie1 i1 If1) (.slice Ie2 i2 If2) (.slice Ie3 i3 If3) k → k ≠ gT) ∧ gT < g5) := ⟨HRI5.out.1.below bal, HRI5.out.2⟩
            have HBX7 : Hid (Blk W7 gT (T6 (.slice y0 b0 g0) (.slice y1 b1 g1) sl0 sl1 (.slice y2 b2 g2) (.slice y3 b3 g3)) 33) := HBX5.out.1.below bal HBX5.out.1.lt
            have HB7 : Hid (Below w2.heap.size w2 W7) := belowCall HB5.out bal HB5.out.size
            clear oo bb al bal rkM HBX5 HB5 KI5 HRI5
            obtain ⟨W8, hW8⟩ : ∃ W, st6 W7 gT (.slice Ie0 i0 If0) (.slice Ie1 i1 If1) nl0 nl1 (.slice Ie2 i2 If2) (.slice Ie3 i3 If3) = W := ⟨_, rfl⟩
            have hfr := fr_put6 W7 gT (.slice Ie0 i0 If0) (.slice Ie1 i1 If1) nl0 nl1 (.slice Ie2 i2 If2) (.slice Ie3 i3 If3)
            rw [hW8] at hfr
            have HBX8 : Hid (Blk W8 gT (T6 (.slice Ie0 i0 If0) (.slice Ie1 i1 If1) nl0 nl1 (.slice Ie2 i2 If2) (.slice Ie3 i3 If3)) 33 ∧ Rk W8 (.slice Ie0 i0 If0) (.slice Ie1 i1 If1) (.slice Ie2 i2 If2) (.slice Ie3 i3 If3) N.z0 N.z1 N.n0 N.n1) := ⟨by rw [← hW8]; exact put6 HBX7.out _ _ _ _ _ _, HRI7.out.1.frK hfr (fun k hk e => HRI7.out.2.1 k hk e)⟩
            have HB8 : Hid (Below w2.heap.size w2 W8) := HB7.out.trans (hfr.below HB7.out.size (fun k e => by have := HGT.out; omega))
            clear hfr
            have y0 := KI7.out.cell 0
            have y1 := KI7.out.cell 1
            have y2 := KI7.out.cell 2
            have y3 := KI7.out.cell 3
            have y4 := KI7.out.cell 4
            have y5 := KI7.out.cell 5
            have yl := KI7.out.lt
            simp at y0 y1 y2 y3 y4 y5
            have x0 := HBX7.out.cell 0
            have xf0 := HBX7.out.frozen 0
            have x1 := HBX7.out.cell 1
            have xf1 := HBX7.out.frozen 1
            have x2 := HBX7.out.cell 2
            have xf2 := HBX7.out.frozen 2
            have x3 := HBX7.out.cell 3
            have xf3 := HBX7.out.frozen 3
            have x4 := HBX7.out.cell 4
            have xf4 := HBX7.out.frozen 4
            have x5 := HBX7.out.cell 5
            have xf5 := HBX7.out.frozen 5
            have xl := HBX7.out.lt
            simp at x0 x1 x2 x3 x4 x5
            have r0 := HBX8.out.1.cell 0
            have r1 := HBX8.out.1.cell 1
            have r2 := HBX8.out.1.cell 2
            have r3 := HBX8.out.1.cell 3
            have r4 := HBX8.out.1.cell 4
            have r5 := HBX8.out.1.cell 5
            have rl := HBX8.out.1.lt
            simp at r0 r1 r2 r3 r4 r5
            have hgt := HRI7.out.2.2
            go_wp2_with (fail)
            try rw [hW8]
            clear hW7 hW8 hgt
            clear y0 y1 y2 y3 y4 y5 yl x0 x1 x2 x3 x4 x5 xl r0 r1 r2 r3 r4 r5 rl xf0 xf1 xf2 xf3 xf4 xf5
            refine (okM_c _ _ _ _ nl0 nl1 N.z0 N.z1 N.n0 N.n1 W8 HBX8.out.2).mono ?_
            rintro e w9 ⟨q, rfl, hq, b9⟩
            obtain rfl : q = true := hq.2 (by rw [← HNL.out.1, ← HNL.out.2]; exact HNA.out.1.ok)
            have HBX9 : Hid (Blk w9 gT (T6 (.slice Ie0 i0 If0) (.slice Ie1 i1 If1) nl0 nl1 (.slice Ie2 i2 If2) (.slice Ie3 i3 If3)) 33 ∧ Rk w9 (.slice Ie0 i0 If0) (.slice Ie1 i1 If1) (.slice Ie2 i2 If2) (.slice Ie3 i3 If3) N.z0 N.z1 N.n0 N.n1) := ⟨HBX8.out.1.below b9 HBX8.out.1.lt, HBX8.out.2.below b9⟩
            have HB9 : Hid (Below w2.heap.size w2 w9) := belowCall HB8.out b9 HB8.out.size
            clear hq b9
            go_wp2
            go_roundw
            case rel => exact ⟨j + 1, N, _, _, _, _, asked, left, by go_num, by go_num, by go_num, ⟨by rw [HNL.out.1, HNL.out.2]; exact HBX9.out.1, HBX9.out.2⟩, ⟨HNA.out.1, HNA.out.2, by have := HDA.out.2.2; omega⟩, HB9.out⟩
            case measure => simp [intOf]; omega
      · subst hkd
        rcases hsd with hsd | hsd
        · subst hsd
          by_cases hok : LvOk0 ac2 sz0 sz1 sl0 sl1 sn0 sn1
          · have HOK : Hid (LvOk0 ac2 sz0 sz1 sl0 sl1 sn0 sn1) := hok
            clear hok
            have HNA : Hid (Day nn (Ts.mk sl0 sl1 (sz0.set ac2.toNat 4) sz1 sn0 (sn1 ++ [(4, ac2)])) ∧ Acc (Ts.mk sl0 sl1 (sz0.set ac2.toNat 4) sz1 sn0 (sn1 ++ [(4, ac2)])) (asked) (left + 1)) := (HDA.out.1.lv0 HDA.out.2.1 ac2 HOK.out)
            obtain ⟨N, hN⟩ : ∃ N, (Ts.mk sl0 sl1 (sz0.set ac2.toNat 4) sz1 sn0 (sn1 ++ [(4, ac2)])) = N := ⟨_, rfl⟩
            have HN : Hid ((Ts.mk sl0 sl1 (sz0.set ac2.toNat 4) sz1 sn0 (sn1 ++ [(4, ac2)])) = N) := hN
            rw [hN] at HNA
            clear hN
            have x0 := HBXq.out.1.cell 0
            have x1 := HBXq.out.1.cell 1
            have x2 := HBXq.out.1.cell 2
            have x3 := HBXq.out.1.cell 3
            have x4 := HBXq.out.1.cell 4
            have x5 := HBXq.out.1.cell 5
            have xl := HBXq.out.1.lt
            simp at x0 x1 x2 x3 x4 x5
            go_wp2_with (fail)
            clear x0 x1 x2 x3 x4 x5 xl
            refine (leaveI0_c _ _ _ _ sl0 sl1 sz0 sz1 sn0 sn1 ac2 wq HBXq.out.2 HSL.out).mono ?_
            rintro e w4 hx
            have hx1 := hx.1 HOK.out
            have hx2 : TwS (Ts.mk sl0 sl1 (sz0.set ac2.toNat 4) sz1 sn0 (sn1 ++ [(4, ac2)])).l0 (Ts.mk sl0 sl1 (sz0.set ac2.toNat 4) sz1 sn0 (sn1 ++ [(4, ac2)])).l1 (Ts.mk sl0 sl1 (sz0.set ac2.toNat 4) sz1 sn0 (sn1 ++ [(4, ac2)])).z0 (Ts.mk sl0 sl1 (sz0.set ac2.toNat 4) sz1 sn0 (sn1 ++ [(4, ac2)])).z1 (Ts.mk sl0 sl1 (sz0.set ac2.toNat 4) sz1 sn0 (sn1 ++ [(4, ac2)])).n0 (Ts.mk sl0 sl1 (sz0.set ac2.toNat 4) sz1 sn0 (sn1 ++ [(4, ac2)])).n1 (.bool true) wq e w4 := hx1
            rw [HN.out] at hx2
            clear hx hx1
            obtain ⟨v0, v1, v2, v3, rfl, oo, bb⟩ := hx2
            have rkI := oo.rd
            obtain ⟨Ie0, If0, hf0, -⟩ := rkI.r0
            obtain ⟨Ie1, If1, hf1, -⟩ := rkI.r1
            obtain ⟨Ie2, If2, hf2, -⟩ := rkI.r2
            obtain ⟨Ie3, If3, hf3, -⟩ := rkI.r3
            obtain ⟨i0, hi0⟩ : ∃ q, N.z0.length = q := ⟨_, rfl⟩
            rw [hi0] at hf0
            clear hi0
            obtain ⟨i1, hi1⟩ : ∃ q, N.z1.length = q := ⟨_, rfl⟩
            rw [hi1] at hf1
            clear hi1
            obtain ⟨i2, hi2⟩ : ∃ q, N.n0.length = q := ⟨_, rfl⟩
            rw [hi2] at hf2
            clear hi2
            obtain ⟨i3, hi3⟩ : ∃ q, N.n1.length = q := ⟨_, rfl⟩
            rw [hi3] at hf3
            clear hi3
            subst hf0 hf1 hf2 hf3
            obtain ⟨nl0, hnl0⟩ : ∃ q, N.l0 = q := ⟨_, rfl⟩
            obtain ⟨nl1, hnl1⟩ : ∃ q, N.l1 = q := ⟨_, rfl⟩
            have HNL : Hid (N.l0 = nl0 ∧ N.l1 = nl1) := ⟨hnl0, hnl1⟩
            rw [hnl0, hnl1]
            clear hnl0 hnl1
            obtain ⟨W5, hW5⟩ : ∃ W, w4.alloc (Obj.cells (T6 (.slice Ie0 i0 If0) (.slice Ie1 i1 If1) nl0 nl1 (.slice Ie2 i2 If2) (.slice Ie3 i3 If3)) 33) = W := ⟨_, rfl⟩
            obtain ⟨g5, hg5⟩ : ∃ k, w4.heap.size = k := ⟨_, rfl⟩
            have al : Below w4.heap.size w4 W5 := by rw [← hW5]; exact (Below.refl _ _).alloc (Nat.le_refl _) _
            have bal : Below wq.heap.size wq W5 := belowCall bb al bb.size
            have KI5 : Hid (Blk W5 g5 (T6 (.slice Ie0 i0 If0) (.slice Ie1 i1 If1) nl0 nl1 (.slice Ie2 i2 If2) (.slice Ie3 i3 If3)) 33) := by rw [← hW5, ← hg5]; exact Blk.new _ _ _
            have HRI5 : Hid (Rk W5 (.slice Ie0 i0 If0) (.slice Ie1 i1 If1) (.slice Ie2 i2 If2) (.slice Ie3 i3 If3) N.z0 N.z1 N.n0 N.n1 ∧ (∀ k, InT (.slice Ie0 i0 If0) (.slice Ie1 i1 If1) (.slice Ie2 i2 If2) (.slice Ie3 i3 If3) k → k ≠ gT) ∧ gT < g5) := ⟨rkI.below al, fun k hk => by have h1 := oo.ge k hk; have h2 := HBXq.out.1.lt; omega, by have h2 := HBXq.out.1.lt; have := bb.size; omega⟩
            have HBX5 : Hid (Blk W5 gT (T6 (.slice y0 b0 g0) (.slice y1 b1 g1) sl0 sl1 (.slice y2 b2 g2) (.slice y3 b3 g3)) 33 ∧ Rk W5 (.slice y0 b0 g0) (.slice y1 b1 g1) (.slice y2 b2 g2) (.slice y3 b3 g3) sz0 sz1 sn0 sn1) := ⟨HBXq.out.1.below bal HBXq.out.1.lt, HBXq.out.2.below bal⟩
            have HB5 : Hid (Below w2.heap.size w2 W5) := belowCall HBq.out bal HBq.out.size
            clear oo bb al bal rkI HBXq HBq
            have x0 := HBX5.out.1.cell 0
            have x1 := HBX5.out.1.cell 1
            have x2 := HBX5.out.1.cell 2
            have x3 := HBX5.out.1.cell 3
            have x4 := HBX5.out.1.cell 4
            have x5 := HBX5.out.1.cell 5
            have xl := HBX5.out.1.lt
            simp at x0 x1 x2 x3 x4 x5
            go_wp2_with (fail)
            try rw [hg5]
            clear hW5 hg5
            clear x0 x1 x2 x3 x4 x5 xl
            refine (leaveM0_c _ _ _ _ sl0 sl1 sz0 sz1 sn0 sn1 ac2 W5 HBX5.out.2 HSL.out).mono ?_
            rintro e w6 hx
            have hx1 := hx.1 HOK.out
            have hx2 : TwS (Ts.mk sl0 sl1 (sz0.set ac2.toNat 4) sz1 sn0 (sn1 ++ [(4, ac2)])).l0 (Ts.mk sl0 sl1 (sz0.set ac2.toNat 4) sz1 sn0 (sn1 ++ [(4, ac2)])).l1 (Ts.mk sl0 sl1 (sz0.set ac2.toNat 4) sz1 sn0 (sn1 ++ [(4, ac2)])).z0 (Ts.mk sl0 sl1 (sz0.set ac2.toNat 4) sz1 sn0 (sn1 ++ [(4, ac2)])).z1 (Ts.mk sl0 sl1 (sz0.set ac2.toNat 4) sz1 sn0 (sn1 ++ [(4, ac2)])).n0 (Ts.mk sl0 sl1 (sz0.set ac2.toNat 4) sz1 sn0 (sn1 ++ [(4, ac2)])).n1 (.bool true) W5 e w6 := hx1
            rw [HN.out] at hx2
            clear hx hx1
            obtain ⟨v0, v1, v2, v3, rfl, oo, bb⟩ := hx2
            have rkM := oo.rd
            obtain ⟨Me0, Mf0, hf0, -⟩ := rkM.r0
            obtain ⟨Me1, Mf1, hf1, -⟩ := rkM.r1
            obtain ⟨Me2, Mf2, hf2, -⟩ := rkM.r2
            obtain ⟨Me3, Mf3, hf3, -⟩ := rkM.r3
            obtain ⟨m0, hm0⟩ : ∃ q, N.z0.length = q := ⟨_, rfl⟩
            rw [hm0] at hf0
            clear hm0
            obtain ⟨m1, hm1⟩ : ∃ q, N.z1.length = q := ⟨_, rfl⟩
            rw [hm1] at hf1
            clear hm1
            obtain ⟨m2, hm2⟩ : ∃ q, N.n0.length = q := ⟨_, rfl⟩
            rw [hm2] at hf2
            clear hm2
            obtain ⟨m3, hm3⟩ : ∃ q, N.n1.length = q := ⟨_, rfl⟩
            rw [hm3] at hf3
            clear hm3
            subst hf0 hf1 hf2 hf3
            rw [HNL.out.1, HNL.out.2]
            obtain ⟨W7, hW7⟩ : ∃ W, w6.alloc (Obj.cells (T6 (.slice Me0 m0 Mf0) (.slice Me1 m1 Mf1) nl0 nl1 (.slice Me2 m2 Mf2) (.slice Me3 m3 Mf3)) 33) = W := ⟨_, rfl⟩
            have al : Below w6.heap.size w6 W7 := by rw [← hW7]; exact (Below.refl _ _).alloc (Nat.le_refl _) _
            have bal : Below W5.heap.size W5 W7 := belowCall bb al bb.size
            have KI7 : Hid (Blk W7 g5 (T6 (.slice Ie0 i0 If0) (.slice Ie1 i1 If1) nl0 nl1 (.slice Ie2 i2 If2) (.slice Ie3 i3 If3)) 33) := KI5.out.below bal KI5.out.lt
            have HRI7 : Hid (Rk W7 (.slice Ie0 i0 If0) (.slice Ie1 i1 If1) (.slice Ie2 i2 If2) (.slice Ie3 i3 If3) N.z0 N.z1 N.n0 N.n1 ∧ (∀ k, InT (.slice Ie0 i0 If0) (.slice Ie1 i1 If1) (.slice Ie2 i2 If2) (.slice Ie3 i3 If3) k → k ≠ gT) ∧ gT < g5) := ⟨HRI5.out.1.below bal, HRI5.out.2⟩
            have HBX7 : Hid (Blk W7 gT (T6 (.slice y0 b0 g0) (.slice y1 b1 g1) sl0 sl1 (.slice y2 b2 g2) (.slice y3 b3 g3)) 33) := HBX5.out.1.below bal HBX5.out.1.lt
            have HB7 : Hid (Below w2.heap.size w2 W7) := belowCall HB5.out bal HB5.out.size
            clear oo bb al bal rkM HBX5 HB5 KI5 HRI5
            obtain ⟨W8, hW8⟩ : ∃ W, st6 W7 gT (.slice Ie0 i0 If0) (.slice Ie1 i1 If1) nl0 nl1 (.slice Ie2 i2 If2) (.slice Ie3 i3 If3) = W := ⟨_, rfl⟩
            have hfr := fr_put6 W7 gT (.slice Ie0 i0 If0) (.slice Ie1 i1 If1) nl0 nl1 (.slice Ie2 i2 If2) (.slice Ie3 i3 If3)
            rw [hW8] at hfr
            have HBX8 : Hid (Blk W8 gT (T6 (.slice Ie0 i0 If0) (.slice Ie1 i1 If1) nl0 nl1 (.slice Ie2 i2 If2) (.slice Ie3 i3 If3)) 33 ∧ Rk W8 (.slice Ie0 i0 If0) (.slice Ie1 i1 If1) (.slice Ie2 i2 If2) (.slice Ie3 i3 If3) N.z0 N.z1 N.n0 N.n1) := ⟨by rw [← hW8]; exact put6 HBX7.out _ _ _ _ _ _, HRI7.out.1.frK hfr (fun k hk e => HRI7.out.2.1 k hk e)⟩
            have HB8 : Hid (Below w2.heap.size w2 W8) := HB7.out.trans (hfr.below HB7.out.size (fun k e => by have := HGT.out; omega))
            clear hfr
            have y0 := KI7.out.cell 0
            have y1 := KI7.out.cell 1
            have y2 := KI7.out.cell 2
            have y3 := KI7.out.cell 3
            have y4 := KI7.out.cell 4
            have y5 := KI7.out.cell 5
            have yl := KI7.out.lt
            simp at y0 y1 y2 y3 y4 y5
            have x0 := HBX7.out.cell 0
            have xf0 := HBX7.out.frozen 0
            have x1 := HBX7.out.cell 1
            have xf1 := HBX7.out.frozen 1
            have x2 := HBX7.out.cell 2
            have xf2 := HBX7.out.frozen 2
            have x3 := HBX7.out.cell 3
            have xf3 := HBX7.out.frozen 3
            have x4 := HBX7.out.cell 4
            have xf4 := HBX7.out.frozen 4
            have x5 := HBX7.out.cell 5
            have xf5 := HBX7.out.frozen 5
            have xl := HBX7.out.lt
            simp at x0 x1 x2 x3 x4 x5
            have r0 := HBX8.out.1.cell 0
            have r1 := HBX8.out.1.cell 1
            have r2 := HBX8.out.1.cell 2
            have r3 := HBX8.out.1.cell 3
            have r4 := HBX8.out.1.cell 4
            have r5 := HBX8.out.1.cell 5
            have rl := HBX8.out.1.lt
            simp at r0 r1 r2 r3 r4 r5
            have hgt := HRI7.out.2.2
            go_wp2_with (fail)
            try rw [hW8]
            clear hW7 hW8 hgt
            clear y0 y1 y2 y3 y4 y5 yl x0 x1 x2 x3 x4 x5 xl r0 r1 r2 r3 r4 r5 rl xf0 xf1 xf2 xf3 xf4 xf5
            refine (okM_c _ _ _ _ nl0 nl1 N.z0 N.z1 N.n0 N.n1 W8 HBX8.out.2).mono ?_
            rintro e w9 ⟨q, rfl, hq, b9⟩
            obtain rfl : q = true := hq.2 (by rw [← HNL.out.1, ← HNL.out.2]; exact HNA.out.1.ok)
            have HBX9 : Hid (Blk w9 gT (T6 (.slice Ie0 i0 If0) (.slice Ie1 i1 If1) nl0 nl1 (.slice Ie2 i2 If2) (.slice Ie3 i3 If3)) 33 ∧ Rk w9 (.slice Ie0 i0 If0) (.slice Ie1 i1 If1) (.slice Ie2 i2 If2) (.slice Ie3 i3 If3) N.z0 N.z1 N.n0 N.n1) := ⟨HBX8.out.1.below b9 HBX8.out.1.lt, HBX8.out.2.below b9⟩
            have HB9 : Hid (Below w2.heap.size w2 w9) := belowCall HB8.out b9 HB8.out.size
            clear hq b9
            go_wp2
            go_roundw
            case rel => exact ⟨j + 1, N, _, _, _, _, asked, left + 1, by go_num, by go_num, by go_num, ⟨by rw [HNL.out.1, HNL.out.2]; exact HBX9.out.1, HBX9.out.2⟩, ⟨HNA.out.1, HNA.out.2, by have := HDA.out.2.2; omega⟩, HB9.out⟩
            case measure => simp [intOf]; omega
          · have HOK : Hid (¬ LvOk0 ac2 sz0 sz1 sl0 sl1 sn0 sn1) := hok
            clear hok
            have HNA : Hid (Day nn (Ts.mk sl0 sl1 sz0 sz1 sn0 sn1) ∧ Acc (Ts.mk sl0 sl1 sz0 sz1 sn0 sn1) (asked) (left)) := (⟨HDA.out.1, HDA.out.2.1⟩ : Day nn (Ts.mk sl0 sl1 sz0 sz1 sn0 sn1) ∧ Acc (Ts.mk sl0 sl1 sz0 sz1 sn0 sn1) asked left)
            obtain ⟨N, hN⟩ : ∃ N, (Ts.mk sl0 sl1 sz0 sz1 sn0 sn1) = N := ⟨_, rfl⟩
            have HN : Hid ((Ts.mk sl0 sl1 sz0 sz1 sn0 sn1) = N) := hN
            rw [hN] at HNA
            clear hN
            have x0 := HBXq.out.1.cell 0
            have x1 := HBXq.out.1.cell 1
            have x2 := HBXq.out.1.cell 2
            have x3 := HBXq.out.1.cell 3
            have x4 := HBXq.out.1.cell 4
            have x5 := HBXq.out.1.cell 5
            have xl := HBXq.out.1.lt
            simp at x0 x1 x2 x3 x4 x5
            go_wp2_with (fail)
            clear x0 x1 x2 x3 x4 x5 xl
            refine (leaveI0_c _ _ _ _ sl0 sl1 sz0 sz1 sn0 sn1 ac2 wq HBXq.out.2 HSL.out).mono ?_
            rintro e w4 hx
            have hx1 := hx.2 HOK.out
            have hx2 : TwS (Ts.mk sl0 sl1 sz0 sz1 sn0 sn1).l0 (Ts.mk sl0 sl1 sz0 sz1 sn0 sn1).l1 (Ts.mk sl0 sl1 sz0 sz1 sn0 sn1).z0 (Ts.mk sl0 sl1 sz0 sz1 sn0 sn1).z1 (Ts.mk sl0 sl1 sz0 sz1 sn0 sn1).n0 (Ts.mk sl0 sl1 sz0 sz1 sn0 sn1).n1 (.bool false) wq e w4 := hx1
            rw [HN.out] at hx2
            clear hx hx1
            obtain ⟨v0, v1, v2, v3, rfl, oo, bb⟩ := hx2
            have rkI := oo.rd
            obtain ⟨Ie0, If0, hf0, -⟩ := rkI.r0
            obtain ⟨Ie1, If1, hf1, -⟩ := rkI.r1
            obtain ⟨Ie2, If2, hf2, -⟩ := rkI.r2
            obtain ⟨Ie3, If3, hf3, -⟩ := rkI.r3
            obtain ⟨i0, hi0⟩ : ∃ q, N.z0.length = q := ⟨_, rfl⟩
            rw [hi0] at hf0
            clear hi0
            obtain ⟨i1, hi1⟩ : ∃ q, N.z1.length = q := ⟨_, rfl⟩
            rw [hi1] at hf1
            clear hi1
            obtain ⟨i2, hi2⟩ : ∃ q, N.n0.length = q := ⟨_, rfl⟩
            rw [hi2] at hf2
            clear hi2
            obtain ⟨i3, hi3⟩ : ∃ q, N.n1.length = q := ⟨_, rfl⟩
            rw [hi3] at hf3
            clear hi3
            subst hf0 hf1 hf2 hf3
            obtain ⟨nl0, hnl0⟩ : ∃ q, N.l0 = q := ⟨_, rfl⟩
            obtain ⟨nl1, hnl1⟩ : ∃ q, N.l1 = q := ⟨_, rfl⟩
            have HNL : Hid (N.l0 = nl0 ∧ N.l1 = nl1) := ⟨hnl0, hnl1⟩
            rw [hnl0, hnl1]
            clear hnl0 hnl1
            obtain ⟨W5, hW5⟩ : ∃ W, w4.alloc (Obj.cells (T6 (.slice Ie0 i0 If0) (.slice Ie1 i1 If1) nl0 nl1 (.slice Ie2 i2 If2) (.slice Ie3 i3 If3)) 33) = W := ⟨_, rfl⟩
            obtain ⟨g5, hg5⟩ : ∃ k, w4.heap.size = k := ⟨_, rfl⟩
            have al : Below w4.heap.size w4 W5 := by rw [← hW5]; exact (Below.refl _ _).alloc (Nat.le_refl _) _
            have bal : Below wq.heap.size wq W5 := belowCall bb al bb.size
            have KI5 : Hid (Blk W5 g5 (T6 (.slice Ie0 i0 If0) (.slice Ie1 i1 If1) nl0 nl1 (.slice Ie2 i2 If2) (.slice Ie3 i3 If3)) 33) := by rw [← hW5, ← hg5]; exact Blk.new _ _ _
            have HRI5 : Hid (Rk W5 (.slice Ie0 i0 If0) (.slice Ie1 i1 If1) (.slice Ie2 i2 If2) (.slice Ie3 i3 If3) N.z0 N.z1 N.n0 N.n1 ∧ (∀ k, InT (.slice Ie0 i0 If0) (.slice Ie1 i1 If1) (.slice Ie2 i2 If2) (.slice Ie3 i3 If3) k → k ≠ gT) ∧ gT < g5) := ⟨rkI.below al, fun k hk => by have h1 := oo.ge k hk; have h2 := HBXq.out.1.lt; omega, by have h2 := HBXq.out.1.lt; have := bb.size; omega⟩
            have HBX5 : Hid (Blk W5 gT (T6 (.slice y0 b0 g0) (.slice y1 b1 g1) sl0 sl1 (.slice y2 b2 g2) (.slice y3 b3 g3)) 33 ∧ Rk W5 (.slice y0 b0 g0) (.slice y1 b1 g1) (.slice y2 b2 g2) (.slice y3 b3 g3) sz0 sz1 sn0 sn1) := ⟨HBXq.out.1.below bal HBXq.out.1.lt, HBXq.out.2.below bal⟩
            have HB5 : Hid (Below w2.heap.size w2 W5) := belowCall HBq.out bal HBq.out.size
            clear oo bb al bal rkI HBXq HBq
            have x0 := HBX5.out.1.cell 0
            have x1 := HBX5.out.1.cell 1
            have x2 := HBX5.out.1.cell 2
            have x3 := HBX5.out.1.cell 3
            have x4 := HBX5.out.1.cell 4
            have x5 := HBX5.out.1.cell 5
            have xl := HBX5.out.1.lt
            simp at x0 x1 x2 x3 x4 x5
            go_wp2_with (fail)
            try rw [hg5]
            clear hW5 hg5
            clear x0 x1 x2 x3 x4 x5 xl
            refine (leaveM0_c _ _ _ _ sl0 sl1 sz0 sz1 sn0 sn1 ac2 W5 HBX5.out.2 HSL.out).mono ?_
            rintro e w6 hx
            have hx1 := hx.2 HOK.out
            have hx2 : TwS (Ts.mk sl0 sl1 sz0 sz1 sn0 sn1).l0 (Ts.mk sl0 sl1 sz0 sz1 sn0 sn1).l1 (Ts.mk sl0 sl1 sz0 sz1 sn0 sn1).z0 (Ts.mk sl0 sl1 sz0 sz1 sn0 sn1).z1 (Ts.mk sl0 sl1 sz0 sz1 sn0 sn1).n0 (Ts.mk sl0 sl1 sz0 sz1 sn0 sn1).n1 (.bool false) W5 e w6 := hx1
            rw [HN.out] at hx2
            clear hx hx1
            obtain ⟨v0, v1, v2, v3, rfl, oo, bb⟩ := hx2
            have rkM := oo.rd
            obtain ⟨Me0, Mf0, hf0, -⟩ := rkM.r0
            obtain ⟨Me1, Mf1, hf1, -⟩ := rkM.r1
            obtain ⟨Me2, Mf2, hf2, -⟩ := rkM.r2
            obtain ⟨Me3, Mf3, hf3, -⟩ := rkM.r3
            obtain ⟨m0, hm0⟩ : ∃ q, N.z0.length = q := ⟨_, rfl⟩
            rw [hm0] at hf0
            clear hm0
            obtain ⟨m1, hm1⟩ : ∃ q, N.z1.length = q := ⟨_, rfl⟩
            rw [hm1] at hf1
            clear hm1
            obtain ⟨m2, hm2⟩ : ∃ q, N.n0.length = q := ⟨_, rfl⟩
            rw [hm2] at hf2
            clear hm2
            obtain ⟨m3, hm3⟩ : ∃ q, N.n1.length = q := ⟨_, rfl⟩
            rw [hm3] at hf3
            clear hm3
            subst hf0 hf1 hf2 hf3
            rw [HNL.out.1, HNL.out.2]
            obtain ⟨W7, hW7⟩ : ∃ W, w6.alloc (Obj.cells (T6 (.slice Me0 m0 Mf0) (.slice Me1 m1 Mf1) nl0 nl1 (.slice Me2 m2 Mf2) (.slice Me3 m3 Mf3)) 33) = W := ⟨_, rfl⟩
            have al : Below w6.heap.size w6 W7 := by rw [← hW7]; exact (Below.refl _ _).alloc (Nat.le_refl _) _
            have bal : Below W5.heap.size W5 W7 := belowCall bb al bb.size
            have KI7 : Hid (Blk W7 g5 (T6 (.slice Ie0 i0 If0) (.slice Ie1 i1 If1) nl0 nl1 (.slice Ie2 i2 If2) (.slice Ie3 i3 If3)) 33) := KI5.out.below bal KI5.out.lt
            have HRI7 : Hid (Rk W7 (.slice Ie0 i0 If0) (.slice Ie1 i1 If1) (.slice Ie2 i2 If2) (.slice Ie3 i3 If3) N.z0 N.z1 N.n0 N.n1 ∧ (∀ k, InT (.slice Ie0 i0 If0) (.slice Ie1 i1 If1) (.slice Ie2 i2 If2) (.slice Ie3 i3 If3) k → k ≠ gT) ∧ gT < g5) := ⟨HRI5.out.1.below bal, HRI5.out.2⟩
            have HBX7 : Hid (Blk W7 gT (T6 (.slice y0 b0 g0) (.slice y1 b1 g1) sl0 sl1 (.slice y2 b2 g2) (.slice y3 b3 g3)) 33) := HBX5.out.1.below bal HBX5.out.1.lt
            have HB7 : Hid (Below w2.heap.size w2 W7) := belowCall HB5.out bal HB5.out.size
            clear oo bb al bal rkM HBX5 HB5 KI5 HRI5
            obtain ⟨W8, hW8⟩ : ∃ W, st6 W7 gT (.slice Ie0 i0 If0) (.slice Ie1 i1 If1) nl0 nl1 (.slice Ie2 i2 If2) (.slice Ie3 i3 If3) = W := ⟨_, rfl⟩
            have hfr := fr_put6 W7 gT (.slice Ie0 i0 If0) (.slice Ie1 i1 If1) nl0 nl1 (.slice Ie2 i2 If2) (.slice Ie3 i3 If3)
            rw [hW8] at hfr
            have HBX8 : Hid (Blk W8 gT (T6 (.slice Ie0 i0 If0) (.slice Ie1 i1 If1) nl0 nl1 (.slice Ie2 i2 If2) (.slice Ie3 i3 If3)) 33 ∧ Rk W8 (.slice Ie0 i0 If0) (.slice Ie1 i1 If1) (.slice Ie2 i2 If2) (.slice Ie3 i3 If3) N.z0 N.z1 N.n0 N.n1) := ⟨by rw [← hW8]; exact put6 HBX7.out _ _ _ _ _ _, HRI7.out.1.frK hfr (fun k hk e => HRI7.out.2.1 k hk e)⟩
            have HB8 : Hid (Below w2.heap.size w2 W8) := HB7.out.trans (hfr.below HB7.out.size (fun k e => by have := HGT.out; omega))
            clear hfr
            have y0 := KI7.out.cell 0
            have y1 := KI7.out.cell 1
            have y2 := KI7.out.cell 2
            have y3 := KI7.out.cell 3
            have y4 := KI7.out.cell 4
            have y5 := KI7.out.cell 5
            have yl := KI7.out.lt
            simp at y0 y1 y2 y3 y4 y5
            have x0 := HBX7.out.cell 0
            have xf0 := HBX7.out.frozen 0
            have x1 := HBX7.out.cell 1
            have xf1 := HBX7.out.frozen 1
            have x2 := HBX7.out.cell 2
            have xf2 := HBX7.out.frozen 2
            have x3 := HBX7.out.cell 3
            have xf3 := HBX7.out.frozen 3
            have x4 := HBX7.out.cell 4
            have xf4 := HBX7.out.frozen 4
            have x5 := HBX7.out.cell 5
            have xf5 := HBX7.out.frozen 5
            have xl := HBX7.out.lt
            simp at x0 x1 x2 x3 x4 x5
            have r0 := HBX8.out.1.cell 0
            have r1 := HBX8.out.1.cell 1
            have r2 := HBX8.out.1.cell 2
            have r3 := HBX8.out.1.cell 3
            have r4 := HBX8.out.1.cell 4
            have r5 := HBX8.out.1.cell 5
            have rl := HBX8.out.1.lt
            simp at r0 r1 r2 r3 r4 r5
            have hgt := HRI7.out.2.2
            go_wp2_with (fail)
            try rw [hW8]
            clear hW7 hW8 hgt
            clear y0 y1 y2 y3 y4 y5 yl x0 x1 x2 x3 x4 x5 xl r0 r1 r2 r3 r4 r5 rl xf0 xf1 xf2 xf3 xf4 xf5
            refine (okM_c _ _ _ _ nl0 nl1 N.z0 N.z1 N.n0 N.n1 W8 HBX8.out.2).mono ?_
            rintro e w9 ⟨q, rfl, hq, b9⟩
            obtain rfl : q = true := hq.2 (by rw [← HNL.out.1, ← HNL.out.2]; exact HNA.out.1.ok)
            have HBX9 : Hid (Blk w9 gT (T6 (.slice Ie0 i0 If0) (.slice Ie1 i1 If1) nl0 nl1 (.slice Ie2 i2 If2) (.slice Ie3 i3 If3)) 33 ∧ Rk w9 (.slice Ie0 i0 If0) (.slice Ie1 i1 If1) (.slice Ie2 i2 If2) (.slice Ie3 i3 If3) N.z0 N.z1 N.n0 N.n1) := ⟨HBX8.out.1.below b9 HBX8.out.1.lt, HBX8.out.2.below b9⟩
            have HB9 : Hid (Below w2.heap.size w2 w9) := belowCall HB8.out b9 HB8.out.size
            clear hq b9
            go_wp2
            go_roundw
            case rel => exact ⟨j + 1, N, _, _, _, _, asked, left, by go_num, by go_num, by go_num, ⟨by rw [HNL.out.1, HNL.out.2]; exact HBX9.out.1, HBX9.out.2⟩, ⟨HNA.out.1, HNA.out.2, by have := HDA.out.2.2; omega⟩, HB9.out⟩
            case measure => simp [intOf]; omega
        · subst hsd
          by_cases hok : LvOk1 ac2 sz0 sz1 sl0 sl1 sn0 sn1
          · have HOK : Hid (LvOk1 ac2 sz0 sz1 sl0 sl1 sn0 sn1) := hok
            clear hok
            have HNA : Hid (Day nn (Ts.mk sl0 sl1 sz0 (sz1.set ac2.toNat 4) (sn0 ++ [(4, ac2)]) sn1) ∧ Acc (Ts.mk sl0 sl1 sz0 (sz1.set ac2.toNat 4) (sn0 ++ [(4, ac2)]) sn1) (asked) (left + 1)) := (HDA.out.1.lv1 HDA.out.2.1 ac2 HOK.out)
            obtain ⟨N, hN⟩ : ∃ N, (Ts.mk sl0 sl1 sz0 (sz1.set ac2.toNat 4) (sn0 ++ [(4, ac2)]) sn1) = N := ⟨_, rfl⟩
            have HN : Hid ((Ts.mk sl0 sl1 sz0 (sz1.set ac2.toNat 4) (sn0 ++ [(4, ac2)]) sn1) = N) := hN
            rw [hN] at HNA
            clear hN
            have x0 := HBXq.out.1.cell 0
            have x1 := HBXq.out.1.cell 1
            have x2 := HBXq.out.1.cell 2
            have x3 := HBXq.out.1.cell 3
            have x4 := HBXq.out.1.cell 4
            have x5 := HBXq.out.1.cell 5
            have xl := HBXq.out.1.lt
            simp at x0 x1 x2 x3 x4 x5
            go_wp2_with (fail)
            clear x0 x1 x2 x3 x4 x5 xl
            refine (leaveI1_c _ _ _ _ sl0 sl1 sz0 sz1 sn0 sn1 ac2 wq HBXq.out.2 HSL.out).mono ?_
            rintro e w4 hx
            have hx1 := hx.1 HOK.out
            have hx2 : TwS (Ts.mk sl0 sl1 sz0 (sz1.set ac2.toNat 4) (sn0 ++ [(4, ac2)]) sn1).l0 (Ts.mk sl0 sl1 sz0 (sz1.set ac2.toNat 4) (sn0 ++ [(4, ac2)]) sn1).l1 (Ts.mk sl0 sl1 sz0 (sz1.set ac2.toNat 4) (sn0 ++ [(4, ac2)]) sn1).z0 (Ts.mk sl0 sl1 sz0 (sz1.set ac2.toNat 4) (sn0 ++ [(4, ac2)]) sn1).z1 (Ts.mk sl0 sl1 sz0 (sz1.set ac2.toNat 4) (sn0 ++ [(4, ac2)]) sn1).n0 (Ts.mk sl0 sl1 sz0 (sz1.set ac2.toNat 4) (sn0 ++ [(4, ac2)]) sn1).n1 (.bool true) wq e w4 := hx1
            rw [HN.out] at hx2
            clear hx hx1
            obtain ⟨v0, v1, v2, v3, rfl, oo, bb⟩ := hx2
            have rkI := oo.rd
            obtain ⟨Ie0, If0, hf0, -⟩ := rkI.r0
            obtain ⟨Ie1, If1, hf1, -⟩ := rkI.r1
            obtain ⟨Ie2, If2, hf2, -⟩ := rkI.r2
            obtain ⟨Ie3, If3, hf3, -⟩ := rkI.r3
            obtain ⟨i0, hi0⟩ : ∃ q, N.z0.length = q := ⟨_, rfl⟩
            rw [hi0] at hf0
            clear hi0
            obtain ⟨i1, hi1⟩ : ∃ q, N.z1.length = q := ⟨_, rfl⟩
            rw [hi1] at hf1
            clear hi1
            obtain ⟨i2, hi2⟩ : ∃ q, N.n0.length = q := ⟨_, rfl⟩
            rw [hi2] at hf2
            clear hi2
            obtain ⟨i3, hi3⟩ : ∃ q, N.n1.length = q := ⟨_, rfl⟩
            rw [hi3] at hf3
            clear hi3
            subst hf0 hf1 hf2 hf3
            obtain ⟨nl0, hnl0⟩ : ∃ q, N.l0 = q := ⟨_, rfl⟩
            obtain ⟨nl1, hnl1⟩ : ∃ q, N.l1 = q := ⟨_, rfl⟩
            have HNL : Hid (N.l0 = nl0 ∧ N.l1 = nl1) := ⟨hnl0, hnl1⟩
            rw [hnl0, hnl1]
            clear hnl0 hnl1
            obtain ⟨W5, hW5⟩ : ∃ W, w4.alloc (Obj.cells (T6 (.slice Ie0 i0 If0) (.slice Ie1 i1 If1) nl0 nl1 (.slice Ie2 i2 If2) (.slice Ie3 i3 If3)) 33) = W := ⟨_, rfl⟩
            obtain ⟨g5, hg5⟩ : ∃ k, w4.heap.size = k := ⟨_, rfl⟩
            have al : Below w4.heap.size w4 W5 := by rw [← hW5]; exact (Below.refl _ _).alloc (Nat.le_refl _) _
            have bal : Below wq.heap.size wq W5 := belowCall bb al bb.size
            have KI5 : Hid (Blk W5 g5 (T6 (.slice Ie0 i0 If0) (.slice Ie1 i1 If1) nl0 nl1 (.slice Ie2 i2 If2) (.slice Ie3 i3 If3)) 33) := by rw [← hW5, ← hg5]; exact Blk.new _ _ _
            have HRI5 : Hid (Rk W5 (.slice Ie0 i0 If0) (.slice Ie1 i1 If1) (.slice Ie2 i2 If2) (.slice Ie3 i3 If3) N.z0 N.z1 N.n0 N.n1 ∧ (∀ k, InT (.slice Ie0 i0 If0) (.slice Ie1 i1 If1) (.slice Ie2 i2 If2) (.slice Ie3 i3 If3) k → k ≠ gT) ∧ gT < g5) := ⟨rkI.below al, fun k hk => by have h1 := oo.ge k hk; have h2 := HBXq.out.1.lt; omega, by have h2 := HBXq.out.1.lt; have := bb.size; omega⟩
            have HBX5 : Hid (Blk W5 gT (T6 (.slice y0 b0 g0) (.slice y1 b1 g1) sl0 sl1 (.slice y2 b2 g2) (.slice y3 b3 g3)) 33 ∧ Rk W5 (.slice y0 b0 g0) (.slice y1 b1 g1) (.slice y2 b2 g2) (.slice y3 b3 g3) sz0 sz1 sn0 sn1) := ⟨HBXq.out.1.below bal HBXq.out.1.lt, HBXq.out.2.below bal⟩
            have HB5 : Hid (Below w2.heap.size w2 W5) := belowCall HBq.out bal HBq.out.size
            clear oo bb al bal rkI HBXq HBq
            have x0 := HBX5.out.1.cell 0
            have x1 := HBX5.out.1.cell 1
            have x2 := HBX5.out.1.cell 2
            have x3 := HBX5.out.1.cell 3
            have x4 := HBX5.out.1.cell 4
            have x5 := HBX5.out.1.cell 5
            have xl := HBX5.out.1.lt
            simp at x0 x1 x2 x3 x4 x5
            go_wp2_with (fail)
            try rw [hg5]
            clear hW5 hg5
            clear x0 x1 x2 x3 x4 x5 xl
            refine (leaveM1_c _ _ _ _ sl0 sl1 sz0 sz1 sn0 sn1 ac2 W5 HBX5.out.2 HSL.out).mono ?_
            rintro e w6 hx
            have hx1 := hx.1 HOK.out
            have hx2 : TwS (Ts.mk sl0 sl1 sz0 (sz1.set ac2.toNat 4) (sn0 ++ [(4, ac2)]) sn1).l0 (Ts.mk sl0 sl1 sz0 (sz1.set ac2.toNat 4) (sn0 ++ [(4, ac2)]) sn1).l1 (Ts.mk sl0 sl1 sz0 (sz1.set ac2.toNat 4) (sn0 ++ [(4, ac2)]) sn1).z0 (Ts.mk sl0 sl1 sz0 (sz1.set ac2.toNat 4) (sn0 ++ [(4, ac2)]) sn1).z1 (Ts.mk sl0 sl1 sz0 (sz1.set ac2.toNat 4) (sn0 ++ [(4, ac2)]) sn1).n0 (Ts.mk sl0 sl1 sz0 (sz1.set ac2.toNat 4) (sn0 ++ [(4, ac2)]) sn1).n1 (.bool true) W5 e w6 := hx1
            rw [HN.out] at hx2
            clear hx hx1
            obtain ⟨v0, v1, v2, v3, rfl, oo, bb⟩ := hx2
            have rkM := oo.rd
            obtain ⟨Me0, Mf0, hf0, -⟩ := rkM.r0
            obtain ⟨Me1, Mf1, hf1, -⟩ := rkM.r1
            obtain ⟨Me2, Mf2, hf2, -⟩ := rkM.r2
            obtain ⟨Me3, Mf3, hf3, -⟩ := rkM.r3
            obtain ⟨m0, hm0⟩ : ∃ q, N.z0.length = q := ⟨_, rfl⟩
            rw [hm0] at hf0
            clear hm0
            obtain ⟨m1, hm1⟩ : ∃ q, N.z1.length = q := ⟨_, rfl⟩
            rw [hm1] at hf1
            clear hm1
            obtain ⟨m2, hm2⟩ : ∃ q, N.n0.length = q := ⟨_, rfl⟩
            rw [hm2] at hf2
            clear hm2
            obtain ⟨m3, hm3⟩ : ∃ q, N.n1.length = q := ⟨_, rfl⟩
            rw [hm3] at hf3
            clear hm3
            subst hf0 hf1 hf2 hf3
            rw [HNL.out.1, HNL.out.2]
            obtain ⟨W7, hW7⟩ : ∃ W, w6.alloc (Obj.cells (T6 (.slice Me0 m0 Mf0) (.slice Me1 m1 Mf1) nl0 nl1 (.slice Me2 m2 Mf2) (.slice Me3 m3 Mf3)) 33) = W := ⟨_, rfl⟩
            have al : Below w6.heap.size w6 W7 := by rw [← hW7]; exact (Below.refl _ _).alloc (Nat.le_refl _) _
            have bal : Below W5.heap.size W5 W7 := belowCall bb al bb.size
            have KI7 : Hid (Blk W7 g5 (T6 (.slice Ie0 i0 If0) (.slice Ie1 i1 If1) nl0 nl1 (.slice Ie2 i2 If2) (.slice Ie3 i3 If3)) 33) := KI5.out.below bal KI5.out.lt
            have HRI7 : Hid (Rk W7 (.slice Ie0 i0 If0) (.slice Ie1 i1 If1) (.slice Ie2 i2 If2) (.slice Ie3 i3 If3) N.z0 N.z1 N.n0 N.n1 ∧ (∀ k, InT (.slice Ie0 i0 If0) (.slice Ie1 i1 If1) (.slice Ie2 i2 If2) (.slice Ie3 i3 If3) k → k ≠ gT) ∧ gT < g5) := ⟨HRI5.out.1.below bal, HRI5.out.2⟩
            have HBX7 : Hid (Blk W7 gT (T6 (.slice y0 b0 g0) (.slice y1 b1 g1) sl0 sl1 (.slice y2 b2 g2) (.slice y3 b3 g3)) 33) := HBX5.out.1.below bal HBX5.out.1.lt
            have HB7 : Hid (Below w2.heap.size w2 W7) := belowCall HB5.out bal HB5.out.size
            clear oo bb al bal rkM HBX5 HB5 KI5 HRI5
            obtain ⟨W8, hW8⟩ : ∃ W, st6 W7 gT (.slice Ie0 i0 If0) (.slice Ie1 i1 If1) nl0 nl1 (.slice Ie2 i2 If2) (.slice Ie3 i3 If3) = W := ⟨_, rfl⟩
            have hfr := fr_put6 W7 gT (.slice Ie0 i0 If0) (.slice Ie1 i1 If1) nl0 nl1 (.slice Ie2 i2 If2) (.slice Ie3 i3 If3)
            rw [hW8] at hfr
            have HBX8 : Hid (Blk W8 gT (T6 (.slice Ie0 i0 If0) (.slice Ie1 i1 If1) nl0 nl1 (.slice Ie2 i2 If2) (.slice Ie3 i3 If3)) 33 ∧ Rk W8 (.slice Ie0 i0 If0) (.slice Ie1 i1 If1) (.slice Ie2 i2 If2) (.slice Ie3 i3 If3) N.z0 N.z1 N.n0 N.n1) := ⟨by rw [← hW8]; exact put6 HBX7.out _ _ _ _ _ _, HRI7.out.1.frK hfr (fun k hk e => HRI7.out.2.1 k hk e)⟩
            have HB8 : Hid (Below w2.heap.size w2 W8) := HB7.out.trans (hfr.below HB7.out.size (fun k e => by have := HGT.out; omega))
            clear hfr
            have y0 := KI7.out.cell 0
            have y1 := KI7.out.cell 1
            have y2 := KI7.out.cell 2
            have y3 := KI7.out.cell 3
            have y4 := KI7.out.cell 4
            have y5 := KI7.out.cell 5
            have yl := KI7.out.lt
            simp at y0 y1 y2 y3 y4 y5
            have x0 := HBX7.out.cell 0
            have xf0 := HBX7.out.frozen 0
            have x1 := HBX7.out.cell 1
            have xf1 := HBX7.out.frozen 1
            have x2 := HBX7.out.cell 2
            have xf2 := HBX7.out.frozen 2
            have x3 := HBX7.out.cell 3
            have xf3 := HBX7.out.frozen 3
            have x4 := HBX7.out.cell 4
            have xf4 := HBX7.out.frozen 4
            have x5 := HBX7.out.cell 5
            have xf5 := HBX7.out.frozen 5
            have xl := HBX7.out.lt
            simp at x0 x1 x2 x3 x4 x5
            have r0 := HBX8.out.1.cell 0
            have r1 := HBX8.out.1.cell 1
            have r2 := HBX8.out.1.cell 2
            have r3 := HBX8.out.1.cell 3
            have r4 := HBX8.out.1.cell 4
            have r5 := HBX8.out.1.cell 5
            have rl := HBX8.out.1.lt
            simp at r0 r1 r2 r3 r4 r5
            have hgt := HRI7.out.2.2
            go_wp2_with (fail)
            try rw [hW8]
            clear hW7 hW8 hgt
            clear y0 y1 y2 y3 y4 y5 yl x0 x1 x2 x3 x4 x5 xl r0 r1 r2 r3 r4 r5 rl xf0 xf1 xf2 xf3 xf4 xf5
            refine (okM_c _ _ _ _ nl0 nl1 N.z0 N.z1 N.n0 N.n1 W8 HBX8.out.2).mono ?_
            rintro e w9 ⟨q, rfl, hq, b9⟩
            obtain rfl : q = true := hq.2 (by rw [← HNL.out.1, ← HNL.out.2]; exact HNA.out.1.ok)
            have HBX9 : Hid (Blk w9 gT (T6 (.slice Ie0 i0 If0) (.slice Ie1 i1 If1) nl0 nl1 (.slice Ie2 i2 If2) (.slice Ie3 i3 If3)) 33 ∧ Rk w9 (.slice Ie0 i0 If0) (.slice Ie1 i1 If1) (.slice Ie2 i2 If2) (.slice Ie3 i3 If3) N.z0 N.z1 N.n0 N.n1) := ⟨HBX8.out.1.below b9 HBX8.out.1.lt, HBX8.out.2.below b9⟩
            have HB9 : Hid (Below w2.heap.size w2 w9) := belowCall HB8.out b9 HB8.out.size
            clear hq b9
            go_wp2
            go_roundw
            case rel => exact ⟨j + 1, N, _, _, _, _, asked, left + 1, by go_num, by go_num, by go_num, ⟨by rw [HNL.out.1, HNL.out.2]; exact HBX9.out.1, HBX9.out.2⟩, ⟨HNA.out.1, HNA.out.2, by have := HDA.out.2.2; omega⟩, HB9.out⟩
            case measure => simp [intOf]; omega
          · have HOK : Hid (¬ LvOk1 ac2 sz0 sz1 sl0 sl1 sn0 sn1) := hok
            clear hok
            have HNA : Hid (Day nn (Ts.mk sl0 sl1 sz0 sz1 sn0 sn1) ∧ Acc (Ts.mk sl0 sl1 sz0 sz1 sn0 sn1) (asked) (left)) := (⟨HDA.out.1, HDA.out.2.1⟩ : Day nn (Ts.mk sl0 sl1 sz0 sz1 sn0 sn1) ∧ Acc (Ts.mk sl0 sl1 sz0 sz1 sn0 sn1) asked left)
            obtain ⟨N, hN⟩ : ∃ N, (Ts.mk sl0 sl1 sz0 sz1 sn0 sn1) = N := ⟨_, rfl⟩
            have HN : Hid ((Ts.mk sl0 sl1 sz0 sz1 sn0 sn1) = N) := hN
            rw [hN] at HNA
            clear hN
            have x0 := HBXq.out.1.cell 0
            have x1 := HBXq.out.1.cell 1
            have x2 := HBXq.out.1.cell 2
            have x3 := HBXq.out.1.cell 3
            have x4 := HBXq.out.1.cell 4
            have x5 := HBXq.out.1.cell 5
            have xl := HBXq.out.1.lt
            simp at x0 x1 x2 x3 x4 x5
            go_wp2_with (fail)
            clear x0 x1 x2 x3 x4 x5 xl
            refine (leaveI1_c _ _ _ _ sl0 sl1 sz0 sz1 sn0 sn1 ac2 wq HBXq.out.2 HSL.out).mono ?_
            rintro e w4 hx
            have hx1 := hx.2 HOK.out
            have hx2 : TwS (Ts.mk sl0 sl1 sz0 sz1 sn0 sn1).l0 (Ts.mk sl0 sl1 sz0 sz1 sn0 sn1).l1 (Ts.mk sl0 sl1 sz0 sz1 sn0 sn1).z0 (Ts.mk sl0 sl1 sz0 sz1 sn0 sn1).z1 (Ts.mk sl0 sl1 sz0 sz1 sn0 sn1).n0 (Ts.mk sl0 sl1 sz0 sz1 sn0 sn1).n1 (.bool false) wq e w4 := hx1
            rw [HN.out] at hx2
            clear hx hx1
            obtain ⟨v0, v1, v2, v3, rfl, oo, bb⟩ := hx2
            have rkI := oo.rd
            obtain ⟨Ie0, If0, hf0, -⟩ := rkI.r0
            obtain ⟨Ie1, If1, hf1, -⟩ := rkI.r1
            obtain ⟨Ie2, If2, hf2, -⟩ := rkI.r2
            obtain ⟨Ie3, If3, hf3, -⟩ := rkI.r3
            obtain ⟨i0, hi0⟩ : ∃ q, N.z0.length = q := ⟨_, rfl⟩
            rw [hi0] at hf0
            clear hi0
            obtain ⟨i1, hi1⟩ : ∃ q, N.z1.length = q := ⟨_, rfl⟩
            rw [hi1] at hf1
            clear hi1
            obtain ⟨i2, hi2⟩ : ∃ q, N.n0.length = q := ⟨_, rfl⟩
            rw [hi2] at hf2
            clear hi2
            obtain ⟨i3, hi3⟩ : ∃ q, N.n1.length = q := ⟨_, rfl⟩
            rw [hi3] at hf3
            clear hi3
            subst hf0 hf1 hf2 hf3
            obtain ⟨nl0, hnl0⟩ : ∃ q, N.l0 = q := ⟨_, rfl⟩
            obtain ⟨nl1, hnl1⟩ : ∃ q, N.l1 = q := ⟨_, rfl⟩
            have HNL : Hid (N.l0 = nl0 ∧ N.l1 = nl1) := ⟨hnl0, hnl1⟩
            rw [hnl0, hnl1]
            clear hnl0 hnl1
            obtain ⟨W5, hW5⟩ : ∃ W, w4.alloc (Obj.cells (T6 (.slice Ie0 i0 If0) (.slice Ie1 i1 If1) nl0 nl1 (.slice Ie2 i2 If2) (.slice Ie3 i3 If3)) 33) = W := ⟨_, rfl⟩
            obtain ⟨g5, hg5⟩ : ∃ k, w4.heap.size = k := ⟨_, rfl⟩
            have al : Below w4.heap.size w4 W5 := by rw [← hW5]; exact (Below.refl _ _).alloc (Nat.le_refl _) _
            have bal : Below wq.heap.size wq W5 := belowCall bb al bb.size
            have KI5 : Hid (Blk W5 g5 (T6 (.slice Ie0 i0 If0) (.slice Ie1 i1 If1) nl0 nl1 (.slice Ie2 i2 If2) (.slice Ie3 i3 If3)) 33) := by rw [← hW5, ← hg5]; exact Blk.new _ _ _
            have HRI5 : Hid (Rk W5 (.slice Ie0 i0 If0) (.slice Ie1 i1 If1) (.slice Ie2 i2 If2) (.slice Ie3 i3 If3) N.z0 N.z1 N.n0 N.n1 ∧ (∀ k, InT (.slice Ie0 i0 If0) (.slice Ie1 i1 If1) (.slice Ie2 i2 If2) (.slice Ie3 i3 If3) k → k ≠ gT) ∧ gT < g5) := ⟨rkI.below al, fun k hk => by have h1 := oo.ge k hk; have h2 := HBXq.out.1.lt; omega, by have h2 := HBXq.out.1.lt; have := bb.size; omega⟩
            have HBX5 : Hid (Blk W5 gT (T6 (.slice y0 b0 g0) (.slice y1 b1 g1) sl0 sl1 (.slice y2 b2 g2) (.slice y3 b3 g3)) 33 ∧ Rk W5 (.slice y0 b0 g0) (.slice y1 b1 g1) (.slice y2 b2 g2) (.slice y3 b3 g3) sz0 sz1 sn0 sn1) := ⟨HBXq.out.1.below bal HBXq.out.1.lt, HBXq.out.2.below bal⟩
            have HB5 : Hid (Below w2.heap.size w2 W5) := belowCall HBq.out bal HBq.out.size
            clear oo bb al bal rkI HBXq HBq
            have x0 := HBX5.out.1.cell 0
            have x1 := HBX5.out.1.cell 1
            have x2 := HBX5.out.1.cell 2
            have x3 := HBX5.out.1.cell 3
            have x4 := HBX5.out.1.cell 4
            have x5 := HBX5.out.1.cell 5
            have xl := HBX5.out.1.lt
            simp at x0 x1 x2 x3 x4 x5
            go_wp2_with (fail)
            try rw [hg5]
            clear hW5 hg5
            clear x0 x1 x2 x3 x4 x5 xl
            refine (leaveM1_c _ _ _ _ sl0 sl1 sz0 sz1 sn0 sn1 ac2 W5 HBX5.out.2 HSL.out).mono ?_
            rintro e w6 hx
            have hx1 := hx.2 HOK.out
            have hx2 : TwS (Ts.mk sl0 sl1 sz0 sz1 sn0 sn1).l0 (Ts.mk sl0 sl1 sz0 sz1 sn0 sn1).l1 (Ts.mk sl0 sl1 sz0 sz1 sn0 sn1).z0 (Ts.mk sl0 sl1 sz0 sz1 sn0 sn1).z1 (Ts.mk sl0 sl1 sz0 sz1 sn0 sn1).n0 (Ts.mk sl0 sl1 sz0 sz1 sn0 sn1).n1 (.bool false) W5 e w6 := hx1
            rw [HN.out] at hx2
            clear hx hx1
            obtain ⟨v0, v1, v2, v3, rfl, oo, bb⟩ := hx2
            have rkM := oo.rd
            obtain ⟨Me0, Mf0, hf0, -⟩ := rkM.r0
            obtain ⟨Me1, Mf1, hf1, -⟩ := rkM.r1
            obtain ⟨Me2, Mf2, hf2, -⟩ := rkM.r2
            obtain ⟨Me3, Mf3, hf3, -⟩ := rkM.r3
            obtain ⟨m0, hm0⟩ : ∃ q, N.z0.length = q := ⟨_, rfl⟩
            rw [hm0] at hf0
            clear hm0
            obtain ⟨m1, hm1⟩ : ∃ q, N.z1.length = q := ⟨_, rfl⟩
            rw [hm1] at hf1
            clear hm1
            obtain ⟨m2, hm2⟩ : ∃ q, N.n0.length = q := ⟨_, rfl⟩
            rw [hm2] at hf2
            clear hm2
            obtain ⟨m3, hm3⟩ : ∃ q, N.n1.length = q := ⟨_, rfl⟩
            rw [hm3] at hf3
            clear hm3
            subst hf0 hf1 hf2 hf3
            rw [HNL.out.1, HNL.out.2]
            obtain ⟨W7, hW7⟩ : ∃ W, w6.alloc (Obj.cells (T6 (.slice Me0 m0 Mf0) (.slice Me1 m1 Mf1) nl0 nl1 (.slice Me2 m2 Mf2) (.slice Me3 m3 Mf3)) 33) = W := ⟨_, rfl⟩
            have al : Below w6.heap.size w6 W7 := by rw [← hW7]; exact (Below.refl _ _).alloc (Nat.le_refl _) _
            have bal : Below W5.heap.size W5 W7 := belowCall bb al bb.size
            have KI7 : Hid (Blk W7 g5 (T6 (.slice Ie0 i0 If0) (.slice Ie1 i1 If1) nl0 nl1 (.slice Ie2 i2 If2) (.slice Ie3 i3 If3)) 33) := KI5.out.below bal KI5.out.lt
            have HRI7 : Hid (Rk W7 (.slice Ie0 i0 If0) (.slice Ie1 i1 If1) (.slice Ie2 i2 If2) (.slice Ie3 i3 If3) N.z0 N.z1 N.n0 N.n1 ∧ (∀ k, InT (.slice Ie0 i0 If0) (.slice Ie1 i1 If1) (.slice Ie2 i2 If2) (.slice Ie3 i3 If3) k → k ≠ gT) ∧ gT < g5) := ⟨HRI5.out.1.below bal, HRI5.out.2⟩
            have HBX7 : Hid (Blk W7 gT (T6 (.slice y0 b0 g0) (.slice y1 b1 g1) sl0 sl1 (.slice y2 b2 g2) (.slice y3 b3 g3)) 33) := HBX5.out.1.below bal HBX5.out.1.lt
            have HB7 : Hid (Below w2.heap.size w2 W7) := belowCall HB5.out bal HB5.out.size
            clear oo bb al bal rkM HBX5 HB5 KI5 HRI5
            obtain ⟨W8, hW8⟩ : ∃ W, st6 W7 gT (.slice Ie0 i0 If0) (.slice Ie1 i1 If1) nl0 nl1 (.slice Ie2 i2 If2) (.slice Ie3 i3 If3) = W := ⟨_, rfl⟩
            have hfr := fr_put6 W7 gT (.slice Ie0 i0 If0) (.slice Ie1 i1 If1) nl0 nl1 (.slice Ie2 i2 If2) (.slice Ie3 i3 If3)
            rw [hW8] at hfr
            have HBX8 : Hid (Blk W8 gT (T6 (.slice Ie0 i0 If0) (.slice Ie1 i1 If1) nl0 nl1 (.slice Ie2 i2 If2) (.slice Ie3 i3 If3)) 33 ∧ Rk W8 (.slice Ie0 i0 If0) (.slice Ie1 i1 If1) (.slice Ie2 i2 If2) (.slice Ie3 i3 If3) N.z0 N.z1 N.n0 N.n1) := ⟨by rw [← hW8]; exact put6 HBX7.out _ _ _ _ _ _, HRI7.out.1.frK hfr (fun k hk e => HRI7.out.2.1 k hk e)⟩
            have HB8 : Hid (Below w2.heap.size w2 W8) := HB7.out.trans (hfr.below HB7.out.size (fun k e => by have := HGT.out; omega))
            clear hfr
            have y0 := KI7.out.cell 0
            have y1 := KI7.out.cell 1
            have y2 := KI7.out.cell 2
            have y3 := KI7.out.cell 3
            have y4 := KI7.out.cell 4
            have y5 := KI7.out.cell 5
            have yl := KI7.out.lt
            simp at y0 y1 y2 y3 y4 y5
            have x0 := HBX7.out.cell 0
            have xf0 := HBX7.out.frozen 0
            have x1 := HBX7.out.cell 1
            have xf1 := HBX7.out.frozen 1
            have x2 := HBX7.out.cell 2
            have xf2 := HBX7.out.frozen 2
            have x3 := HBX7.out.cell 3
            have xf3 := HBX7.out.frozen 3
            have x4 := HBX7.out.cell 4
            have xf4 := HBX7.out.frozen 4
            have x5 := HBX7.out.cell 5
            have xf5 := HBX7.out.frozen 5
            have xl := HBX7.out.lt
            simp at x0 x1 x2 x3 x4 x5
            have r0 := HBX8.out.1.cell 0
            have r1 := HBX8.out.1.cell 1
            have r2 := HBX8.out.1.cell 2
            have r3 := HBX8.out.1.cell 3
            have r4 := HBX8.out.1.cell 4
            have r5 := HBX8.out.1.cell 5
            have rl := HBX8.out.1.lt
            simp at r0 r1 r2 r3 r4 r5
            have hgt := HRI7.out.2.2
            go_wp2_with (fail)
            try rw [hW8]
            clear hW7 hW8 hgt
            clear y0 y1 y2 y3 y4 y5 yl x0 x1 x2 x3 x4 x5 xl r0 r1 r2 r3 r4 r5 rl xf0 xf1 xf2 xf3 xf4 xf5
            refine (okM_c _ _ _ _ nl0 nl1 N.z0 N.z1 N.n0 N.n1 W8 HBX8.out.2).mono ?_
            rintro e w9 ⟨q, rfl, hq, b9⟩
            obtain rfl : q = true := hq.2 (by rw [← HNL.out.1, ← HNL.out.2]; exact HNA.out.1.ok)
            have HBX9 : Hid (Blk w9 gT (T6 (.slice Ie0 i0 If0) (.slice Ie1 i1 If1) nl0 nl1 (.slice Ie2 i2 If2) (.slice Ie3 i3 If3)) 33 ∧ Rk w9 (.slice Ie0 i0 If0) (.slice Ie1 i1 If1) (.slice Ie2 i2 If2) (.slice Ie3 i3 If3) N.z0 N.z1 N.n0 N.n1) := ⟨HBX8.out.1.below b9 HBX8.out.1.lt, HBX8.out.2.below b9⟩
            have HB9 : Hid (Below w2.heap.size w2 w9) := belowCall HB8.out b9 HB8.out.size
            clear hq b9
            go_wp2
            go_roundw
            case rel => exact ⟨j + 1, N, _, _, _, _, asked, left, by go_num, by go_num, by go_num, ⟨by rw [HNL.out.1, HNL.out.2]; exact HBX9.out.1, HBX9.out.2⟩, ⟨HNA.out.1, HNA.out.2, by have := HDA.out.2.2; omega⟩, HB9.out⟩
            case measure => simp [intOf]; omega
      · subst hkd
        rcases hsd with hsd | hsd
        · subst hsd
          by_cases hok : CaOk0 sz0 sz1 sl0 sl1 sn0 sn1
          · have HOK : Hid (CaOk0 sz0 sz1 sl0 sl1 sn0 sn1) := hok
            clear hok
            have HNA : Hid (Day nn (Ts.mk sl0 sl1 sz0 sz1 sn0 sn1).c0 ∧ Acc (Ts.mk sl0 sl1 sz0 sz1 sn0 sn1).c0 (asked) (left)) := (HDA.out.1.ca0 HDA.out.2.1 HOK.out)
            obtain ⟨N, hN⟩ : ∃ N, (Ts.mk sl0 sl1 sz0 sz1 sn0 sn1).c0 = N := ⟨_, rfl⟩
            have HN : Hid ((Ts.mk sl0 sl1 sz0 sz1 sn0 sn1).c0 = N) := hN
            rw [hN] at HNA
            clear hN
            have x0 := HBXq.out.1.cell 0
            have x1 := HBXq.out.1.cell 1
            have x2 := HBXq.out.1.cell 2
            have x3 := HBXq.out.1.cell 3
            have x4 := HBXq.out.1.cell 4
            have x5 := HBXq.out.1.cell 5
            have xl := HBXq.out.1.lt
            simp at x0 x1 x2 x3 x4 x5
            go_wp2_with (fail)
            clear x0 x1 x2 x3 x4 x5 xl
            refine (carryI0_c _ _ _ _ sl0 sl1 sz0 sz1 sn0 sn1 wq HBXq.out.2 HSL.out).mono ?_
            rintro e w4 hx
            have hx1 := hx.1 HOK.out
            have hx2 : TwS (Ts.mk sl0 sl1 sz0 sz1 sn0 sn1).c0.l0 (Ts.mk sl0 sl1 sz0 sz1 sn0 sn1).c0.l1 (Ts.mk sl0 sl1 sz0 sz1 sn0 sn1).c0.z0 (Ts.mk sl0 sl1 sz0 sz1 sn0 sn1).c0.z1 (Ts.mk sl0 sl1 sz0 sz1 sn0 sn1).c0.n0 (Ts.mk sl0 sl1 sz0 sz1 sn0 sn1).c0.n1 (.bool true) wq e w4 := hx1
            rw [HN.out] at hx2
            clear hx hx1
            obtain ⟨v0, v1, v2, v3, rfl, oo, bb⟩ := hx2
            have rkI := oo.rd
            obtain ⟨Ie0, If0, hf0, -⟩ := rkI.r0
            obtain ⟨Ie1, If1, hf1, -⟩ := rkI.r1
            obtain ⟨Ie2, If2, hf2, -⟩ := rkI.r2
            obtain ⟨Ie3, If3, hf3, -⟩ := rkI.r3
            obtain ⟨i0, hi0⟩ : ∃ q, N.z0.length = q := ⟨_, rfl⟩
            rw [hi0] at hf0
            clear hi0
            obtain ⟨i1, hi1⟩ : ∃ q, N.z1.length = q := ⟨_, rfl⟩
            rw [hi1] at hf1
            clear hi1
            obtain ⟨i2, hi2⟩ : ∃ q, N.n0.length = q := ⟨_, rfl⟩
            rw [hi2] at hf2
            clear hi2
            obtain ⟨i3, hi3⟩ : ∃ q, N.n1.length = q := ⟨_, rfl⟩
            rw [hi3] at hf3
            clear hi3
            subst hf0 hf1 hf2 hf3
            obtain ⟨nl0, hnl0⟩ : ∃ q, N.l0 = q := ⟨_, rfl⟩
            obtain ⟨nl1, hnl1⟩ : ∃ q, N.l1 = q := ⟨_, rfl⟩
            have HNL : Hid (N.l0 = nl0 ∧ N.l1 = nl1) := ⟨hnl0, hnl1⟩
            rw [hnl0, hnl1]
            clear hnl0 hnl1
            obtain ⟨W5, hW5⟩ : ∃ W, w4.alloc (Obj.cells (T6 (.slice Ie0 i0 If0) (.slice Ie1 i1 If1) nl0 nl1 (.slice Ie2 i2 If2) (.slice Ie3 i3 If3)) 33) = W := ⟨_, rfl⟩
            obtain ⟨g5, hg5⟩ : ∃ k, w4.heap.size = k := ⟨_, rfl⟩
            have al : Below w4.heap.size w4 W5 := by rw [← hW5]; exact (Below.refl _ _).alloc (Nat.le_refl _) _
            have bal : Below wq.heap.size wq W5 := belowCall bb al bb.size
            have KI5 : Hid (Blk W5 g5 (T6 (.slice Ie0 i0 If0) (.slice Ie1 i1 If1) nl0 nl1 (.slice Ie2 i2 If2) (.slice Ie3 i3 If3)) 33) := by rw [← hW5, ← hg5]; exact Blk.new _ _ _
            have HRI5 : Hid (Rk W5 (.slice Ie0 i0 If0) (.slice Ie1 i1 If1) (.slice Ie2 i2 If2) (.slice Ie3 i3 If3) N.z0 N.z1 N.n0 N.n1 ∧ (∀ k, InT (.slice Ie0 i0 If0) (.slice Ie1 i1 If1) (.slice Ie2 i2 If2) (.slice Ie3 i3 If3) k → k ≠ gT) ∧ gT < g5) := ⟨rkI.below al, fun k hk => by have h1 := oo.ge k hk; have h2 := HBXq.out.1.lt; omega, by have h2 := HBXq.out.1.lt; have := bb.size; omega⟩
            have HBX5 : Hid (Blk W5 gT (T6 (.slice y0 b0 g0) (.slice y1 b1 g1) sl0 sl1 (.slice y2 b2 g2) (.slice y3 b3 g3)) 33 ∧ Rk W5 (.slice y0 b0 g0) (.slice y1 b1 g1) (.slice y2 b2 g2) (.slice y3 b3 g3) sz0 sz1 sn0 sn1) := ⟨HBXq.out.1.below bal HBXq.out.1.lt, HBXq.out.2.below bal⟩
            have HB5 : Hid (Below w2.heap.size w2 W5) := belowCall HBq.out bal HBq.out.size
            clear oo bb al bal rkI HBXq HBq
            have x0 := HBX5.out.1.cell 0
            have x1 := HBX5.out.1.cell 1
            have x2 := HBX5.out.1.cell 2
            have x3 := HBX5.out.1.cell 3
            have x4 := HBX5.out.1.cell 4
            have x5 := HBX5.out.1.cell 5
            have xl := HBX5.out.1.lt
            simp at x0 x1 x2 x3 x4 x5
            go_wp2_with (fail)
            try rw [hg5]
            clear hW5 hg5
            clear x0 x1 x2 x3 x4 x5 xl
            refine (carryM0_c _ _ _ _ sl0 sl1 sz0 sz1 sn0 sn1 W5 HBX5.out.2 HSL.out).mono ?_
            rintro e w6 hx
            have hx1 := hx.1 HOK.out
            have hx2 : TwP (Ts.mk sl0 sl1 sz0 sz1 sn0 sn1).c0.l0 (Ts.mk sl0 sl1 sz0 sz1 sn0 sn1).c0.l1 (Ts.mk sl0 sl1 sz0 sz1 sn0 sn1).c0.z0 (Ts.mk sl0 sl1 sz0 sz1 sn0 sn1).c0.z1 (Ts.mk sl0 sl1 sz0 sz1 sn0 sn1).c0.n0 (Ts.mk sl0 sl1 sz0 sz1 sn0 sn1).c0.n1 (.bool true) W5 e w6 := hx1
            rw [HN.out] at hx2
            clear hx hx1
            obtain ⟨v0, v1, v2, v3, rfl, oo, bb⟩ := hx2
            have rkM := oo.rk
            obtain ⟨Me0, Mf0, hf0, -⟩ := rkM.r0
            obtain ⟨Me1, Mf1, hf1, -⟩ := rkM.r1
            obtain ⟨Me2, Mf2, hf2, -⟩ := rkM.r2
            obtain ⟨Me3, Mf3, hf3, -⟩ := rkM.r3
            obtain ⟨m0, hm0⟩ : ∃ q, N.z0.length = q := ⟨_, rfl⟩
            rw [hm0] at hf0
            clear hm0
            obtain ⟨m1, hm1⟩ : ∃ q, N.z1.length = q := ⟨_, rfl⟩
            rw [hm1] at hf1
            clear hm1
            obtain ⟨m2, hm2⟩ : ∃ q, N.n0.length = q := ⟨_, rfl⟩
            rw [hm2] at hf2
            clear hm2
            obtain ⟨m3, hm3⟩ : ∃ q, N.n1.length = q := ⟨_, rfl⟩
            rw [hm3] at hf3
            clear hm3
            subst hf0 hf1 hf2 hf3
            rw [HNL.out.1, HNL.out.2]
            obtain ⟨W7, hW7⟩ : ∃ W, w6.alloc (Obj.cells (T6 (.slice Me0 m0 Mf0) (.slice Me1 m1 Mf1) nl0 nl1 (.slice Me2 m2 Mf2) (.slice Me3 m3 Mf3)) 33) = W := ⟨_, rfl⟩
            have al : Below w6.heap.size w6 W7 := by rw [← hW7]; exact (Below.refl _ _).alloc (Nat.le_refl _) _
            have bal : Below W5.heap.size W5 W7 := belowCall bb al bb.size
            have KI7 : Hid (Blk W7 g5 (T6 (.slice Ie0 i0 If0) (.slice Ie1 i1 If1) nl0 nl1 (.slice Ie2 i2 If2) (.slice Ie3 i3 If3)) 33) := KI5.out.below bal KI5.out.lt
            have HRI7 : Hid (Rk W7 (.slice Ie0 i0 If0) (.slice Ie1 i1 If1) (.slice Ie2 i2 If2) (.slice Ie3 i3 If3) N.z0 N.z1 N.n0 N.n1 ∧ (∀ k, InT (.slice Ie0 i0 If0) (.slice Ie1 i1 If1) (.slice Ie2 i2 If2) (.slice Ie3 i3 If3) k → k ≠ gT) ∧ gT < g5) := ⟨HRI5.out.1.below bal, HRI5.out.2⟩
            have HBX7 : Hid (Blk W7 gT (T6 (.slice y0 b0 g0) (.slice y1 b1 g1) sl0 sl1 (.slice y2 b2 g2) (.slice y3 b3 g3)) 33) := HBX5.out.1.below bal HBX5.out.1.lt
            have HB7 : Hid (Below w2.heap.size w2 W7) := belowCall HB5.out bal HB5.out.size
            clear oo bb al bal rkM HBX5 HB5 KI5 HRI5
            obtain ⟨W8, hW8⟩ : ∃ W, st6 W7 gT (.slice Ie0 i0 If0) (.slice Ie1 i1 If1) nl0 nl1 (.slice Ie2 i2 If2) (.slice Ie3 i3 If3) = W := ⟨_, rfl⟩
            have hfr := fr_put6 W7 gT (.slice Ie0 i0 If0) (.slice Ie1 i1 If1) nl0 nl1 (.slice Ie2 i2 If2) (.slice Ie3 i3 If3)
            rw [hW8] at hfr
            have HBX8 : Hid (Blk W8 gT (T6 (.slice Ie0 i0 If0) (.slice Ie1 i1 If1) nl0 nl1 (.slice Ie2 i2 If2) (.slice Ie3 i3 If3)) 33 ∧ Rk W8 (.slice Ie0 i0 If0) (.slice Ie1 i1 If1) (.slice Ie2 i2 If2) (.slice Ie3 i3 If3) N.z0 N.z1 N.n0 N.n1) := ⟨by rw [← hW8]; exact put6 HBX7.out _ _ _ _ _ _, HRI7.out.1.frK hfr (fun k hk e => HRI7.out.2.1 k hk e)⟩
            have HB8 : Hid (Below w2.heap.size w2 W8) := HB7.out.trans (hfr.below HB7.out.size (fun k e => by have := HGT.out; omega))
            clear hfr
            have y0 := KI7.out.cell 0
            have y1 := KI7.out.cell 1
            have y2 := KI7.out.cell 2
            have y3 := KI7.out.cell 3
            have y4 := KI7.out.cell 4
            have y5 := KI7.out.cell 5
            have yl := KI7.out.lt
            simp at y0 y1 y2 y3 y4 y5
            have x0 := HBX7.out.cell 0
            have xf0 := HBX7.out.frozen 0
            have x1 := HBX7.out.cell 1
            have xf1 := HBX7.out.frozen 1
            have x2 := HBX7.out.cell 2
            have xf2 := HBX7.out.frozen 2
            have x3 := HBX7.out.cell 3
            have xf3 := HBX7.out.frozen 3
            have x4 := HBX7.out.cell 4
            have xf4 := HBX7.out.frozen 4
            have x5 := HBX7.out.cell 5
            have xf5 := HBX7.out.frozen 5
            have xl := HBX7.out.lt
            simp at x0 x1 x2 x3 x4 x5
            have r0 := HBX8.out.1.cell 0
            have r1 := HBX8.out.1.cell 1
            have r2 := HBX8.out.1.cell 2
            have r3 := HBX8.out.1.cell 3
            have r4 := HBX8.out.1.cell 4
            have r5 := HBX8.out.1.cell 5
            have rl := HBX8.out.1.lt
            simp at r0 r1 r2 r3 r4 r5
            have hgt := HRI7.out.2.2
            go_wp2_with (fail)
            try rw [hW8]
            clear hW7 hW8 hgt
            clear y0 y1 y2 y3 y4 y5 yl x0 x1 x2 x3 x4 x5 xl r0 r1 r2 r3 r4 r5 rl xf0 xf1 xf2 xf3 xf4 xf5
            refine (okM_c _ _ _ _ nl0 nl1 N.z0 N.z1 N.n0 N.n1 W8 HBX8.out.2).mono ?_
            rintro e w9 ⟨q, rfl, hq, b9⟩
            obtain rfl : q = true := hq.2 (by rw [← HNL.out.1, ← HNL.out.2]; exact HNA.out.1.ok)
            have HBX9 : Hid (Blk w9 gT (T6 (.slice Ie0 i0 If0) (.slice Ie1 i1 If1) nl0 nl1 (.slice Ie2 i2 If2) (.slice Ie3 i3 If3)) 33 ∧ Rk w9 (.slice Ie0 i0 If0) (.slice Ie1 i1 If1) (.slice Ie2 i2 If2) (.slice Ie3 i3 If3) N.z0 N.z1 N.n0 N.n1) := ⟨HBX8.out.1.below b9 HBX8.out.1.lt, HBX8.out.2.below b9⟩
            have HB9 : Hid (Below w2.heap.size w2 w9) := belowCall HB8.out b9 HB8.out.size
            clear hq b9
            go_wp2
            go_roundw
            case rel => exact ⟨j + 1, N, _, _, _, _, asked, left, by go_num, by go_num, by go_num, ⟨by rw [HNL.out.1, HNL.out.2]; exact HBX9.out.1, HBX9.out.2⟩, ⟨HNA.out.1, HNA.out.2, by have := HDA.out.2.2; omega⟩, HB9.out⟩
            case measure => simp [intOf]; omega
          · have HOK : Hid (¬ CaOk0 sz0 sz1 sl0 sl1 sn0 sn1) := hok
            clear hok
            have HNA : Hid (Day nn (Ts.mk sl0 sl1 sz0 sz1 sn0 sn1) ∧ Acc (Ts.mk sl0 sl1 sz0 sz1 sn0 sn1) (asked) (left)) := (⟨HDA.out.1, HDA.out.2.1⟩ : Day nn (Ts.mk sl0 sl1 sz0 sz1 sn0 sn1) ∧ Acc (Ts.mk sl0 sl1 sz0 sz1 sn0 sn1) asked left)
            obtain ⟨N, hN⟩ : ∃ N, (Ts.mk sl0 sl1 sz0 sz1 sn0 sn1) = N := ⟨_, rfl⟩
            have HN : Hid ((Ts.mk sl0 sl1 sz0 sz1 sn0 sn1) = N) := hN
            rw [hN] at HNA
            clear hN
            have x0 := HBXq.out.1.cell 0
            have x1 := HBXq.out.1.cell 1
            have x2 := HBXq.out.1.cell 2
            have x3 := HBXq.out.1.cell 3
            have x4 := HBXq.out.1.cell 4
            have x5 := HBXq.out.1.cell 5
            have xl := HBXq.out.1.lt
            simp at x0 x1 x2 x3 x4 x5
            go_wp2_with (fail)
            clear x0 x1 x2 x3 x4 x5 xl
            refine (carryI0_c _ _ _ _ sl0 sl1 sz0 sz1 sn0 sn1 wq HBXq.out.2 HSL.out).mono ?_
            rintro e w4 hx
            have hx1 := hx.2 HOK.out
            have hx2 : TwS (Ts.mk sl0 sl1 sz0 sz1 sn0 sn1).l0 (Ts.mk sl0 sl1 sz0 sz1 sn0 sn1).l1 (Ts.mk sl0 sl1 sz0 sz1 sn0 sn1).z0 (Ts.mk sl0 sl1 sz0 sz1 sn0 sn1).z1 (Ts.mk sl0 sl1 sz0 sz1 sn0 sn1).n0 (Ts.mk sl0 sl1 sz0 sz1 sn0 sn1).n1 (.bool false) wq e w4 := hx1
            rw [HN.out] at hx2
            clear hx hx1
            obtain ⟨v0, v1, v2, v3, rfl, oo, bb⟩ := hx2
            have rkI := oo.rd
            obtain ⟨Ie0, If0, hf0, -⟩ := rkI.r0
            obtain ⟨Ie1, If1, hf1, -⟩ := rkI.r1
            obtain ⟨Ie2, If2, hf2, -⟩ := rkI.r2
            obtain ⟨Ie3, If3, hf3, -⟩ := rkI.r3
            obtain ⟨i0, hi0⟩ : ∃ q, N.z0.length = q := ⟨_, rfl⟩
            rw [hi0] at hf0
            clear hi0
            obtain ⟨i1, hi1⟩ : ∃ q, N.z1.length = q := ⟨_, rfl⟩
            rw [hi1] at hf1
            clear hi1
            obtain ⟨i2, hi2⟩ : ∃ q, N.n0.length = q := ⟨_, rfl⟩
            rw [hi2] at hf2
            clear hi2
            obtain ⟨i3, hi3⟩ : ∃ q, N.n1.length = q := ⟨_, rfl⟩
            rw [hi3] at hf3
            clear hi3
            subst hf0 hf1 hf2 hf3
            obtain ⟨nl0, hnl0⟩ : ∃ q, N.l0 = q := ⟨_, rfl⟩
            obtain ⟨nl1, hnl1⟩ : ∃ q, N.l1 = q := ⟨_, rfl⟩
            have HNL : Hid (N.l0 = nl0 ∧ N.l1 = nl1) := ⟨hnl0, hnl1⟩
            rw [hnl0, hnl1]
            clear hnl0 hnl1
            obtain ⟨W5, hW5⟩ : ∃ W, w4.alloc (Obj.cells (T6 (.slice Ie0 i0 If0) (.slice Ie1 i1 If1) nl0 nl1 (.slice Ie2 i2 If2) (.slice Ie3 i3 If3)) 33) = W := ⟨_, rfl⟩
            obtain ⟨g5, hg5⟩ : ∃ k, w4.heap.size = k := ⟨_, rfl⟩
            have al : Below w4.heap.size w4 W5 := by rw [← hW5]; exact (Below.refl _ _).alloc (Nat.le_refl _) _
            have bal : Below wq.heap.size wq W5 := belowCall bb al bb.size
            have KI5 : Hid (Blk W5 g5 (T6 (.slice Ie0 i0 If0) (.slice Ie1 i1 If1) nl0 nl1 (.slice Ie2 i2 If2) (.slice Ie3 i3 If3)) 33) := by rw [← hW5, ← hg5]; exact Blk.new _ _ _
            have HRI5 : Hid (Rk W5 (.slice Ie0 i0 If0) (.slice Ie1 i1 If1) (.slice Ie2 i2 If2) (.slice Ie3 i3 If3) N.z0 N.z1 N.n0 N.n1 ∧ (∀ k, InT (.slice Ie0 i0 If0) (.slice Ie1 i1 If1) (.slice Ie2 i2 If2) (.slice Ie3 i3 If3) k → k ≠ gT) ∧ gT < g5) := ⟨rkI.below al, fun k hk => by have h1 := oo.ge k hk; have h2 := HBXq.out.1.lt; omega, by have h2 := HBXq.out.1.lt; have := bb.size; omega⟩
            have HBX5 : Hid (Blk W5 gT (T6 (.slice y0 b0 g0) (.slice y1 b1 g1) sl0 sl1 (.slice y2 b2 g2) (.slice y3 b3 g3)) 33 ∧ Rk W5 (.slice y0 b0 g0) (.slice y1 b1 g1) (.slice y2 b2 g2) (.slice y3 b3 g3) sz0 sz1 sn0 sn1) := ⟨HBXq.out.1.below bal HBXq.out.1.lt, HBXq.out.2.below bal⟩
            have HB5 : Hid (Below w2.heap.size w2 W5) := belowCall HBq.out bal HBq.out.size
            clear oo bb al bal rkI HBXq HBq
            have x0 := HBX5.out.1.cell 0
            have x1 := HBX5.out.1.cell 1
            have x2 := HBX5.out.1.cell 2
            have x3 := HBX5.out.1.cell 3
            have x4 := HBX5.out.1.cell 4
            have x5 := HBX5.out.1.cell 5
            have xl := HBX5.out.1.lt
            simp at x0 x1 x2 x3 x4 x5
            go_wp2_with (fail)
            try rw [hg5]
            clear hW5 hg5
            clear x0 x1 x2 x3 x4 x5 xl
            refine (carryM0_c _ _ _ _ sl0 sl1 sz0 sz1 sn0 sn1 W5 HBX5.out.2 HSL.out).mono ?_
            rintro e w6 hx
            have hx1 := hx.2 HOK.out
            have hx2 : TwP (Ts.mk sl0 sl1 sz0 sz1 sn0 sn1).l0 (Ts.mk sl0 sl1 sz0 sz1 sn0 sn1).l1 (Ts.mk sl0 sl1 sz0 sz1 sn0 sn1).z0 (Ts.mk sl0 sl1 sz0 sz1 sn0 sn1).z1 (Ts.mk sl0 sl1 sz0 sz1 sn0 sn1).n0 (Ts.mk sl0 sl1 sz0 sz1 sn0 sn1).n1 (.bool false) W5 e w6 := hx1
            rw [HN.out] at hx2
            clear hx hx1
            obtain ⟨v0, v1, v2, v3, rfl, oo, bb⟩ := hx2
            have rkM := oo.rk
            obtain ⟨Me0, Mf0, hf0, -⟩ := rkM.r0
            obtain ⟨Me1, Mf1, hf1, -⟩ := rkM.r1
            obtain ⟨Me2, Mf2, hf2, -⟩ := rkM.r2
            obtain ⟨Me3, Mf3, hf3, -⟩ := rkM.r3
            obtain ⟨m0, hm0⟩ : ∃ q, N.z0.length = q := ⟨_, rfl⟩
            rw [hm0] at hf0
            clear hm0
            obtain ⟨m1, hm1⟩ : ∃ q, N.z1.length = q := ⟨_, rfl⟩
            rw [hm1] at hf1
            clear hm1
            obtain ⟨m2, hm2⟩ : ∃ q, N.n0.length = q := ⟨_, rfl⟩
            rw [hm2] at hf2
            clear hm2
            obtain ⟨m3, hm3⟩ : ∃ q, N.n1.length = q := ⟨_, rfl⟩
            rw [hm3] at hf3
            clear hm3
            subst hf0 hf1 hf2 hf3
            rw [HNL.out.1, HNL.out.2]
            obtain ⟨W7, hW7⟩ : ∃ W, w6.alloc (Obj.cells (T6 (.slice Me0 m0 Mf0) (.slice Me1 m1 Mf1) nl0 nl1 (.slice Me2 m2 Mf2) (.slice Me3 m3 Mf3)) 33) = W := ⟨_, rfl⟩
            have al : Below w6.heap.size w6 W7 := by rw [← hW7]; exact (Below.refl _ _).alloc (Nat.le_refl _) _
            have bal : Below W5.heap.size W5 W7 := belowCall bb al bb.size
            have KI7 : Hid (Blk W7 g5 (T6 (.slice Ie0 i0 If0) (.slice Ie1 i1 If1) nl0 nl1 (.slice Ie2 i2 If2) (.slice Ie3 i3 If3)) 33) := KI5.out.below bal KI5.out.lt
            have HRI7 : Hid (Rk W7 (.slice Ie0 i0 If0) (.slice Ie1 i1 If1) (.slice Ie2 i2 If2) (.slice Ie3 i3 If3) N.z0 N.z1 N.n0 N.n1 ∧ (∀ k, InT (.slice Ie0 i0 If0) (.slice Ie1 i1 If1) (.slice Ie2 i2 If2) (.slice Ie3 i3 If3) k → k ≠ gT) ∧ gT < g5) := ⟨HRI5.out.1.below bal, HRI5.out.2⟩
            have HBX7 : Hid (Blk W7 gT (T6 (.slice y0 b0 g0) (.slice y1 b1 g1) sl0 sl1 (.slice y2 b2 g2) (.slice y3 b3 g3)) 33) := HBX5.out.1.below bal HBX5.out.1.lt
            have HB7 : Hid (Below w2.heap.size w2 W7) := belowCall HB5.out bal HB5.out.size
            clear oo bb al bal rkM HBX5 HB5 KI5 HRI5
            obtain ⟨W8, hW8⟩ : ∃ W, st6 W7 gT (.slice Ie0 i0 If0) (.slice Ie1 i1 If1) nl0 nl1 (.slice Ie2 i2 If2) (.slice Ie3 i3 If3) = W := ⟨_, rfl⟩
            have hfr := fr_put6 W7 gT (.slice Ie0 i0 If0) (.slice Ie1 i1 If1) nl0 nl1 (.slice Ie2 i2 If2) (.slice Ie3 i3 If3)
            rw [hW8] at hfr
            have HBX8 : Hid (Blk W8 gT (T6 (.slice Ie0 i0 If0) (.slice Ie1 i1 If1) nl0 nl1 (.slice Ie2 i2 If2) (.slice Ie3 i3 If3)) 33 ∧ Rk W8 (.slice Ie0 i0 If0) (.slice Ie1 i1 If1) (.slice Ie2 i2 If2) (.slice Ie3 i3 If3) N.z0 N.z1 N.n0 N.n1) := ⟨by rw [← hW8]; exact put6 HBX7.out _ _ _ _ _ _, HRI7.out.1.frK hfr (fun k hk e => HRI7.out.2.1 k hk e)⟩
            have HB8 : Hid (Below w2.heap.size w2 W8) := HB7.out.trans (hfr.below HB7.out.size (fun k e => by have := HGT.out; omega))
            clear hfr
            have y0 := KI7.out.cell 0
            have y1 := KI7.out.cell 1
            have y2 := KI7.out.cell 2
            have y3 := KI7.out.cell 3
            have y4 := KI7.out.cell 4
            have y5 := KI7.out.cell 5
            have yl := KI7.out.lt
            simp at y0 y1 y2 y3 y4 y5
            have x0 := HBX7.out.cell 0
            have xf0 := HBX7.out.frozen 0
            have x1 := HBX7.out.cell 1
            have xf1 := HBX7.out.frozen 1
            have x2 := HBX7.out.cell 2
            have xf2 := HBX7.out.frozen 2
            have x3 := HBX7.out.cell 3
            have xf3 := HBX7.out.frozen 3
            have x4 := HBX7.out.cell 4
            have xf4 := HBX7.out.frozen 4
            have x5 := HBX7.out.cell 5
            have xf5 := HBX7.out.frozen 5
            have xl := HBX7.out.lt
            simp at x0 x1 x2 x3 x4 x5
            have r0 := HBX8.out.1.cell 0
            have r1 := HBX8.out.1.cell 1
            have r2 := HBX8.out.1.cell 2
            have r3 := HBX8.out.1.cell 3
            have r4 := HBX8.out.1.cell 4
            have r5 := HBX8.out.1.cell 5
            have rl := HBX8.out.1.lt
            simp at r0 r1 r2 r3 r4 r5
            have hgt := HRI7.out.2.2
            go_wp2_with (fail)
            try rw [hW8]
            clear hW7 hW8 hgt
            clear y0 y1 y2 y3 y4 y5 yl x0 x1 x2 x3 x4 x5 xl r0 r1 r2 r3 r4 r5 rl xf0 xf1 xf2 xf3 xf4 xf5
            refine (okM_c _ _ _ _ nl0 nl1 N.z0 N.z1 N.n0 N.n1 W8 HBX8.out.2).mono ?_
            rintro e w9 ⟨q, rfl, hq, b9⟩
            obtain rfl : q = true := hq.2 (by rw [← HNL.out.1, ← HNL.out.2]; exact HNA.out.1.ok)
            have HBX9 : Hid (Blk w9 gT (T6 (.slice Ie0 i0 If0) (.slice Ie1 i1 If1) nl0 nl1 (.slice Ie2 i2 If2) (.slice Ie3 i3 If3)) 33 ∧ Rk w9 (.slice Ie0 i0 If0) (.slice Ie1 i1 If1) (.slice Ie2 i2 If2) (.slice Ie3 i3 If3) N.z0 N.z1 N.n0 N.n1) := ⟨HBX8.out.1.below b9 HBX8.out.1.lt, HBX8.out.2.below b9⟩
            have HB9 : Hid (Below w2.heap.size w2 w9) := belowCall HB8.out b9 HB8.out.size
            clear hq b9
            go_wp2
            go_roundw
            case rel => exact ⟨j + 1, N, _, _, _, _, asked, left, by go_num, by go_num, by go_num, ⟨by rw [HNL.out.1, HNL.out.2]; exact HBX9.out.1, HBX9.out.2⟩, ⟨HNA.out.1, HNA.out.2, by have := HDA.out.2.2; omega⟩, HB9.out⟩
            case measure => simp [intOf]; omega
        · subst hsd
          by_cases hok : CaOk1 sz0 sz1 sl0 sl1 sn0 sn1
          · have HOK : Hid (CaOk1 sz0 sz1 sl0 sl1 sn0 sn1) := hok
            clear hok
            have HNA : Hid (Day nn (Ts.mk sl0 sl1 sz0 sz1 sn0 sn1).c1 ∧ Acc (Ts.mk sl0 sl1 sz0 sz1 sn0 sn1).c1 (asked) (left)) := (HDA.out.1.ca1 HDA.out.2.1 HOK.out)
            obtain ⟨N, hN⟩ : ∃ N, (Ts.mk sl0 sl1 sz0 sz1 sn0 sn1).c1 = N := ⟨_, rfl⟩
            have HN : Hid ((Ts.mk sl0 sl1 sz0 sz1 sn0 sn1).c1 = N) := hN
            rw [hN] at HNA
            clear hN
            have x0 := HBXq.out.1.cell 0
            have x1 := HBXq.out.1.cell 1
            have x2 := HBXq.out.1.cell 2
            have x3 := HBXq.out.1.cell 3
            have x4 := HBXq.out.1.cell 4
            have x5 := HBXq.out.1.cell 5
            have xl := HBXq.out.1.lt
            simp at x0 x1 x2 x3 x4 x5
            go_wp2_with (fail)
            clear x0 x1 x2 x3 x4 x5 xl
            refine (carryI1_c _ _ _ _ sl0 sl1 sz0 sz1 sn0 sn1 wq HBXq.out.2 HSL.out).mono ?_
            rintro e w4 hx
            have hx1 := hx.1 HOK.out
            have hx2 : TwS (Ts.mk sl0 sl1 sz0 sz1 sn0 sn1).c1.l0 (Ts.mk sl0 sl1 sz0 sz1 sn0 sn1).c1.l1 (Ts.mk sl0 sl1 sz0 sz1 sn0 sn1).c1.z0 (Ts.mk sl0 sl1 sz0 sz1 sn0 sn1).c1.z1 (Ts.mk sl0 sl1 sz0 sz1 sn0 sn1).c1.n0 (Ts.mk sl0 sl1 sz0 sz1 sn0 sn1).c1.n1 (.bool true) wq e w4 := hx1
            rw [HN.out] at hx2
            clear hx hx1
            obtain ⟨v0, v1, v2, v3, rfl, oo, bb⟩ := hx2
            have rkI := oo.rd
            obtain ⟨Ie0, If0, hf0, -⟩ := rkI.r0
            obtain ⟨Ie1, If1, hf1, -⟩ := rkI.r1
            obtain ⟨Ie2, If2, hf2, -⟩ := rkI.r2
            obtain ⟨Ie3, If3, hf3, -⟩ := rkI.r3
            obtain ⟨i0, hi0⟩ : ∃ q, N.z0.length = q := ⟨_, rfl⟩
            rw [hi0] at hf0
            clear hi0
            obtain ⟨i1, hi1⟩ : ∃ q, N.z1.length = q := ⟨_, rfl⟩
            rw [hi1] at hf1
            clear hi1
            obtain ⟨i2, hi2⟩ : ∃ q, N.n0.length = q := ⟨_, rfl⟩
            rw [hi2] at hf2
            clear hi2
            obtain ⟨i3, hi3⟩ : ∃ q, N.n1.length = q := ⟨_, rfl⟩
            rw [hi3] at hf3
            clear hi3
            subst hf0 hf1 hf2 hf3
            obtain ⟨nl0, hnl0⟩ : ∃ q, N.l0 = q := ⟨_, rfl⟩
            obtain ⟨nl1, hnl1⟩ : ∃ q, N.l1 = q := ⟨_, rfl⟩
            have HNL : Hid (N.l0 = nl0 ∧ N.l1 = nl1) := ⟨hnl0, hnl1⟩
            rw [hnl0, hnl1]
            clear hnl0 hnl1
            obtain ⟨W5, hW5⟩ : ∃ W, w4.alloc (Obj.cells (T6 (.slice Ie0 i0 If0) (.slice Ie1 i1 If1) nl0 nl1 (.slice Ie2 i2 If2) (.slice Ie3 i3 If3)) 33) = W := ⟨_, rfl⟩
            obtain ⟨g5, hg5⟩ : ∃ k, w4.heap.size = k := ⟨_, rfl⟩
            have al : Below w4.heap.size w4 W5 := by rw [← hW5]; exact (Below.refl _ _).alloc (Nat.le_refl _) _
            have bal : Below wq.heap.size wq W5 := belowCall bb al bb.size
            have KI5 : Hid (Blk W5 g5 (T6 (.slice Ie0 i0 If0) (.slice Ie1 i1 If1) nl0 nl1 (.slice Ie2 i2 If2) (.slice Ie3 i3 If3)) 33) := by rw [← hW5, ← hg5]; exact Blk.new _ _ _
            have HRI5 : Hid (Rk W5 (.slice Ie0 i0 If0) (.slice Ie1 i1 If1) (.slice Ie2 i2 If2) (.slice Ie3 i3 If3) N.z0 N.z1 N.n0 N.n1 ∧ (∀ k, InT (.slice Ie0 i0 If0) (.slice Ie1 i1 If1) (.slice Ie2 i2 If2) (.slice Ie3 i3 If3) k → k ≠ gT) ∧ gT < g5) := ⟨rkI.below al, fun k hk => by have h1 := oo.ge k hk; have h2 := HBXq.out.1.lt; omega, by have h2 := HBXq.out.1.lt; have := bb.size; omega⟩
            have HBX5 : Hid (Blk W5 gT (T6 (.slice y0 b0 g0) (.slice y1 b1 g1) sl0 sl1 (.slice y2 b2 g2) (.slice y3 b3 g3)) 33 ∧ Rk W5 (.slice y0 b0 g0) (.slice y1 b1 g1) (.slice y2 b2 g2) (.slice y3 b3 g3) sz0 sz1 sn0 sn1) := ⟨HBXq.out.1.below bal HBXq.out.1.lt, HBXq.out.2.below bal⟩
            have HB5 : Hid (Below w2.heap.size w2 W5) := belowCall HBq.out bal HBq.out.size
            clear oo bb al bal rkI HBXq HBq
            have x0 := HBX5.out.1.cell 0
            have x1 := HBX5.out.1.cell 1
            have x2 := HBX5.out.1.cell 2
            have x3 := HBX5.out.1.cell 3
            have x4 := HBX5.out.1.cell 4
            have x5 := HBX5.out.1.cell 5
            have xl := HBX5.out.1.lt
            simp at x0 x1 x2 x3 x4 x5
            go_wp2_with (fail)
            try rw [hg5]
            clear hW5 hg5
            clear x0 x1 x2 x3 x4 x5 xl
            refine (carryM1_c _ _ _ _ sl0 sl1 sz0 sz1 sn0 sn1 W5 HBX5.out.2 HSL.out).mono ?_
            rintro e w6 hx
            have hx1 := hx.1 HOK.out
            have hx2 : TwP (Ts.mk sl0 sl1 sz0 sz1 sn0 sn1).c1.l0 (Ts.mk sl0 sl1 sz0 sz1 sn0 sn1).c1.l1 (Ts.mk sl0 sl1 sz0 sz1 sn0 sn1).c1.z0 (Ts.mk sl0 sl1 sz0 sz1 sn0 sn1).c1.z1 (Ts.mk sl0 sl1 sz0 sz1 sn0 sn1).c1.n0 (Ts.mk sl0 sl1 sz0 sz1 sn0 sn1).c1.n1 (.bool true) W5 e w6 := hx1
            rw [HN.out] at hx2
            clear hx hx1
            obtain ⟨v0, v1, v2, v3, rfl, oo, bb⟩ := hx2
            have rkM := oo.rk
            obtain ⟨Me0, Mf0, hf0, -⟩ := rkM.r0
            obtain ⟨Me1, Mf1, hf1, -⟩ := rkM.r1
            obtain ⟨Me2, Mf2, hf2, -⟩ := rkM.r2
            obtain ⟨Me3, Mf3, hf3, -⟩ := rkM.r3
            obtain ⟨m0, hm0⟩ : ∃ q, N.z0.length = q := ⟨_, rfl⟩
            rw [hm0] at hf0
            clear hm0
            obtain ⟨m1, hm1⟩ : ∃ q, N.z1.length = q := ⟨_, rfl⟩
            rw [hm1] at hf1
            clear hm1
            obtain ⟨m2, hm2⟩ : ∃ q, N.n0.length = q := ⟨_, rfl⟩
            rw [hm2] at hf2
            clear hm2
            obtain ⟨m3, hm3⟩ : ∃ q, N.n1.length = q := ⟨_, rfl⟩
            rw [hm3] at hf3
            clear hm3
            subst hf0 hf1 hf2 hf3
            rw [HNL.out.1, HNL.out.2]
            obtain ⟨W7, hW7⟩ : ∃ W, w6.alloc (Obj.cells (T6 (.slice Me0 m0 Mf0) (.slice Me1 m1 Mf1) nl0 nl1 (.slice Me2 m2 Mf2) (.slice Me3 m3 Mf3)) 33) = W := ⟨_, rfl⟩
            have al : Below w6.heap.size w6 W7 := by rw [← hW7]; exact (Below.refl _ _).alloc (Nat.le_refl _) _
            have bal : Below W5.heap.size W5 W7 := belowCall bb al bb.size
            have KI7 : Hid (Blk W7 g5 (T6 (.slice Ie0 i0 If0) (.slice Ie1 i1 If1) nl0 nl1 (.slice Ie2 i2 If2) (.slice Ie3 i3 If3)) 33) := KI5.out.below bal KI5.out.lt
            have HRI7 : Hid (Rk W7 (.slice Ie0 i0 If0) (.slice Ie1 i1 If1) (.slice Ie2 i2 If2) (.slice Ie3 i3 If3) N.z0 N.z1 N.n0 N.n1 ∧ (∀ k, InT (.slice Ie0 i0 If0) (.slice Ie1 i1 If1) (.slice Ie2 i2 If2) (.slice Ie3 i3 If3) k → k ≠ gT) ∧ gT < g5) := ⟨HRI5.out.1.below bal, HRI5.out.2⟩
            have HBX7 : Hid (Blk W7 gT (T6 (.slice y0 b0 g0) (.slice y1 b1 g1) sl0 sl1 (.slice y2 b2 g2) (.slice y3 b3 g3)) 33) := HBX5.out.1.below bal HBX5.out.1.lt
            have HB7 : Hid (Below w2.heap.size w2 W7) := belowCall HB5.out bal HB5.out.size
            clear oo bb al bal rkM HBX5 HB5 KI5 HRI5
            obtain ⟨W8, hW8⟩ : ∃ W, st6 W7 gT (.slice Ie0 i0 If0) (.slice Ie1 i1 If1) nl0 nl1 (.slice Ie2 i2 If2) (.slice Ie3 i3 If3) = W := ⟨_, rfl⟩
            have hfr := fr_put6 W7 gT (.slice Ie0 i0 If0) (.slice Ie1 i1 If1) nl0 nl1 (.slice Ie2 i2 If2) (.slice Ie3 i3 If3)
            rw [hW8] at hfr
            have HBX8 : Hid (Blk W8 gT (T6 (.slice Ie0 i0 If0) (.slice Ie1 i1 If1) nl0 nl1 (.slice Ie2 i2 If2) (.slice Ie3 i3 If3)) 33 ∧ Rk W8 (.slice Ie0 i0 If0) (.slice Ie1 i1 If1) (.slice Ie2 i2 If2) (.slice Ie3 i3 If3) N.z0 N.z1 N.n0 N.n1) := ⟨by rw [← hW8]; exact put6 HBX7.out _ _ _ _ _ _, HRI7.out.1.frK hfr (fun k hk e => HRI7.out.2.1 k hk e)⟩
            have HB8 : Hid (Below w2.heap.size w2 W8) := HB7.out.trans (hfr.below HB7.out.size (fun k e => by have := HGT.out; omega))
            clear hfr
            have y0 := KI7.out.cell 0
            have y1 := KI7.out.cell 1
            have y2 := KI7.out.cell 2
            have y3 := KI7.out.cell 3
            have y4 := KI7.out.cell 4
            have y5 := KI7.out.cell 5
            have yl := KI7.out.lt
            simp at y0 y1 y2 y3 y4 y5
            have x0 := HBX7.out.cell 0
            have xf0 := HBX7.out.frozen 0
            have x1 := HBX7.out.cell 1
            have xf1 := HBX7.out.frozen 1
            have x2 := HBX7.out.cell 2
            have xf2 := HBX7.out.frozen 2
            have x3 := HBX7.out.cell 3
            have xf3 := HBX7.out.frozen 3
            have x4 := HBX7.out.cell 4
            have xf4 := HBX7.out.frozen 4
            have x5 := HBX7.out.cell 5
            have xf5 := HBX7.out.frozen 5
            have xl := HBX7.out.lt
            simp at x0 x1 x2 x3 x4 x5
            have r0 := HBX8.out.1.cell 0
            have r1 := HBX8.out.1.cell 1
            have r2 := HBX8.out.1.cell 2
            have r3 := HBX8.out.1.cell 3
            have r4 := HBX8.out.1.cell 4
            have r5 := HBX8.out.1.cell 5
            have rl := HBX8.out.1.lt
            simp at r0 r1 r2 r3 r4 r5
            have hgt := HRI7.out.2.2
            go_wp2_with (fail)
            try rw [hW8]
            clear hW7 hW8 hgt
            clear y0 y1 y2 y3 y4 y5 yl x0 x1 x2 x3 x4 x5 xl r0 r1 r2 r3 r4 r5 rl xf0 xf1 xf2 xf3 xf4 xf5
            refine (okM_c _ _ _ _ nl0 nl1 N.z0 N.z1 N.n0 N.n1 W8 HBX8.out.2).mono ?_
            rintro e w9 ⟨q, rfl, hq, b9⟩
            obtain rfl : q = true := hq.2 (by rw [← HNL.out.1, ← HNL.out.2]; exact HNA.out.1.ok)
            have HBX9 : Hid (Blk w9 gT (T6 (.slice Ie0 i0 If0) (.slice Ie1 i1 If1) nl0 nl1 (.slice Ie2 i2 If2) (.slice Ie3 i3 If3)) 33 ∧ Rk w9 (.slice Ie0 i0 If0) (.slice Ie1 i1 If1) (.slice Ie2 i2 If2) (.slice Ie3 i3 If3) N.z0 N.z1 N.n0 N.n1) := ⟨HBX8.out.1.below b9 HBX8.out.1.lt, HBX8.out.2.below b9⟩
            have HB9 : Hid (Below w2.heap.size w2 w9) := belowCall HB8.out b9 HB8.out.size
            clear hq b9
            go_wp2
            go_roundw
            case rel => exact ⟨j + 1, N, _, _, _, _, asked, left, by go_num, by go_num, by go_num, ⟨by rw [HNL.out.1, HNL.out.2]; exact HBX9.out.1, HBX9.out.2⟩, ⟨HNA.out.1, HNA.out.2, by have := HDA.out.2.2; omega⟩, HB9.out⟩
            case measure => simp [intOf]; omega
          · have HOK : Hid (¬ CaOk1 sz0 sz1 sl0 sl1 sn0 sn1) := hok
            clear hok
            have HNA : Hid (Day nn (Ts.mk sl0 sl1 sz0 sz1 sn0 sn1) ∧ Acc (Ts.mk sl0 sl1 sz0 sz1 sn0 sn1) (asked) (left)) := (⟨HDA.out.1, HDA.out.2.1⟩ : Day nn (Ts.mk sl0 sl1 sz0 sz1 sn0 sn1) ∧ Acc (Ts.mk sl0 sl1 sz0 sz1 sn0 sn1) asked left)
            obtain ⟨N, hN⟩ : ∃ N, (Ts.mk sl0 sl1 sz0 sz1 sn0 sn1) = N := ⟨_, rfl⟩
            have HN : Hid ((Ts.mk sl0 sl1 sz0 sz1 sn0 sn1) = N) := hN
            rw [hN] at HNA
            clear hN
            have x0 := HBXq.out.1.cell 0
            have x1 := HBXq.out.1.cell 1
            have x2 := HBXq.out.1.cell 2
            have x3 := HBXq.out.1.cell 3
            have x4 := HBXq.out.1.cell 4
            have x5 := HBXq.out.1.cell 5
            have xl := HBXq.out.1.lt
            simp at x0 x1 x2 x3 x4 x5
            go_wp2_with (fail)
            clear x0 x1 x2 x3 x4 x5 xl
            refine (carryI1_c _ _ _ _ sl0 sl1 sz0 sz1 sn0 sn1 wq HBXq.out.2 HSL.out).mono ?_
            rintro e w4 hx
            have hx1 := hx.2 HOK.out
            have hx2 : TwS (Ts.mk sl0 sl1 sz0 sz1 sn0 sn1).l0 (Ts.mk sl0 sl1 sz0 sz1 sn0 sn1).l1 (Ts.mk sl0 sl1 sz0 sz1 sn0 sn1).z0 (Ts.mk sl0 sl1 sz0 sz1 sn0 sn1).z1 (Ts.mk sl0 sl1 sz0 sz1 sn0 sn1).n0 (Ts.mk sl0 sl1 sz0 sz1 sn0 sn1).n1 (.bool false) wq e w4 := hx1
            rw [HN.out] at hx2
            clear hx hx1
            obtain ⟨v0, v1, v2, v3, rfl, oo, bb⟩ := hx2
            have rkI := oo.rd
            obtain ⟨Ie0, If0, hf0, -⟩ := rkI.r0
            obtain ⟨Ie1, If1, hf1, -⟩ := rkI.r1
            obtain ⟨Ie2, If2, hf2, -⟩ := rkI.r2
            obtain ⟨Ie3, If3, hf3, -⟩ := rkI.r3
            obtain ⟨i0, hi0⟩ : ∃ q, N.z0.length = q := ⟨_, rfl⟩
            rw [hi0] at hf0
            clear hi0
            obtain ⟨i1, hi1⟩ : ∃ q, N.z1.length = q := ⟨_, rfl⟩
            rw [hi1] at hf1
            clear hi1
            obtain ⟨i2, hi2⟩ : ∃ q, N.n0.length = q := ⟨_, rfl⟩
            rw [hi2] at hf2
            clear hi2
            obtain ⟨i3, hi3⟩ : ∃ q, N.n1.length = q := ⟨_, rfl⟩
            rw [hi3] at hf3
            clear hi3
            subst hf0 hf1 hf2 hf3
            obtain ⟨nl0, hnl0⟩ : ∃ q, N.l0 = q := ⟨_, rfl⟩
            obtain ⟨nl1, hnl1⟩ : ∃ q, N.l1 = q := ⟨_, rfl⟩
            have HNL : Hid (N.l0 = nl0 ∧ N.l1 = nl1) := ⟨hnl0, hnl1⟩
            rw [hnl0, hnl1]
            clear hnl0 hnl1
            obtain ⟨W5, hW5⟩ : ∃ W, w4.alloc (Obj.cells (T6 (.slice Ie0 i0 If0) (.slice Ie1 i1 If1) nl0 nl1 (.slice Ie2 i2 If2) (.slice Ie3 i3 If3)) 33) = W := ⟨_, rfl⟩
            obtain ⟨g5, hg5⟩ : ∃ k, w4.heap.size = k := ⟨_, rfl⟩
            have al : Below w4.heap.size w4 W5 := by rw [← hW5]; exact (Below.refl _ _).alloc (Nat.le_refl _) _
            have bal : Below wq.heap.size wq W5 := belowCall bb al bb.size
            have KI5 : Hid (Blk W5 g5 (T6 (.slice Ie0 i0 If0) (.slice Ie1 i1 If1) nl0 nl1 (.slice Ie2 i2 If2) (.slice Ie3 i3 If3)) 33) := by rw [← hW5, ← hg5]; exact Blk.new _ _ _
            have HRI5 : Hid (Rk W5 (.slice Ie0 i0 If0) (.slice Ie1 i1 If1) (.slice Ie2 i2 If2) (.slice Ie3 i3 If3) N.z0 N.z1 N.n0 N.n1 ∧ (∀ k, InT (.slice Ie0 i0 If0) (.slice Ie1 i1 If1) (.slice Ie2 i2 If2) (.slice Ie3 i3 If3) k → k ≠ gT) ∧ gT < g5) := ⟨rkI.below al, fun k hk => by have h1 := oo.ge k hk; have h2 := HBXq.out.1.lt; omega, by have h2 := HBXq.out.1.lt; have := bb.size; omega⟩
            have HBX5 : Hid (Blk W5 gT (T6 (.slice y0 b0 g0) (.slice y1 b1 g1) sl0 sl1 (.slice y2 b2 g2) (.slice y3 b3 g3)) 33 ∧ Rk W5 (.slice y0 b0 g0) (.slice y1 b1 g1) (.slice y2 b2 g2) (.slice y3 b3 g3) sz0 sz1 sn0 sn1) := ⟨HBXq.out.1.below bal HBXq.out.1.lt, HBXq.out.2.below bal⟩
            have HB5 : Hid (Below w2.heap.size w2 W5) := belowCall HBq.out bal HBq.out.size
            clear oo bb al bal rkI HBXq HBq
            have x0 := HBX5.out.1.cell 0
            have x1 := HBX5.out.1.cell 1
            have x2 := HBX5.out.1.cell 2
            have x3 := HBX5.out.1.cell 3
            have x4 := HBX5.out.1.cell 4
            have x5 := HBX5.out.1.cell 5
            have xl := HBX5.out.1.lt
            simp at x0 x1 x2 x3 x4 x5
            go_wp2_with (fail)
            try rw [hg5]
            clear hW5 hg5
            clear x0 x1 x2 x3 x4 x5 xl
            refine (carryM1_c _ _ _ _ sl0 sl1 sz0 sz1 sn0 sn1 W5 HBX5.out.2 HSL.out).mono ?_
            rintro e w6 hx
            have hx1 := hx.2 HOK.out
            have hx2 : TwP (Ts.mk sl0 sl1 sz0 sz1 sn0 sn1).l0 (Ts.mk sl0 sl1 sz0 sz1 sn0 sn1).l1 (Ts.mk sl0 sl1 sz0 sz1 sn0 sn1).z0 (Ts.mk sl0 sl1 sz0 sz1 sn0 sn1).z1 (Ts.mk sl0 sl1 sz0 sz1 sn0 sn1).n0 (Ts.mk sl0 sl1 sz0 sz1 sn0 sn1).n1 (.bool false) W5 e w6 := hx1
            rw [HN.out] at hx2
            clear hx hx1
            obtain ⟨v0, v1, v2, v3, rfl, oo, bb⟩ := hx2
            have rkM := oo.rk
            obtain ⟨Me0, Mf0, hf0, -⟩ := rkM.r0
            obtain ⟨Me1, Mf1, hf1, -⟩ := rkM.r1
            obtain ⟨Me2, Mf2, hf2, -⟩ := rkM.r2
            obtain ⟨Me3, Mf3, hf3, -⟩ := rkM.r3
            obtain ⟨m0, hm0⟩ : ∃ q, N.z0.length = q := ⟨_, rfl⟩
            rw [hm0] at hf0
            clear hm0
            obtain ⟨m1, hm1⟩ : ∃ q, N.z1.length = q := ⟨_, rfl⟩
            rw [hm1] at hf1
            clear hm1
            obtain ⟨m2, hm2⟩ : ∃ q, N.n0.length = q := ⟨_, rfl⟩
            rw [hm2] at hf2
            clear hm2
            obtain ⟨m3, hm3⟩ : ∃ q, N.n1.length = q := ⟨_, rfl⟩
            rw [hm3] at hf3
            clear hm3
            subst hf0 hf1 hf2 hf3
            rw [HNL.out.1, HNL.out.2]
            obtain ⟨W7, hW7⟩ : ∃ W, w6.alloc (Obj.cells (T6 (.slice Me0 m0 Mf0) (.slice Me1 m1 Mf1) nl0 nl1 (.slice Me2 m2 Mf2) (.slice Me3 m3 Mf3)) 33) = W := ⟨_, rfl⟩
            have al : Below w6.heap.size w6 W7 := by rw [← hW7]; exact (Below.refl _ _).alloc (Nat.le_refl _) _
            have bal : Below W5.heap.size W5 W7 := belowCall bb al bb.size
            have KI7 : Hid (Blk W7 g5 (T6 (.slice Ie0 i0 If0) (.slice Ie1 i1 If1) nl0 nl1 (.slice Ie2 i2 If2) (.slice Ie3 i3 If3)) 33) := KI5.out.below bal KI5.out.lt
            have HRI7 : Hid (Rk W7 (.slice Ie0 i0 If0) (.slice Ie1 i1 If1) (.slice Ie2 i2 If2) (.slice Ie3 i3 If3) N.z0 N.z1 N.n0 N.n1 ∧ (∀ k, InT (.slice Ie0 i0 If0) (.slice Ie1 i1 If1) (.slice Ie2 i2 If2) (.slice Ie3 i3 If3) k → k ≠ gT) ∧ gT < g5) := ⟨HRI5.out.1.below bal, HRI5.out.2⟩
            have HBX7 : Hid (Blk W7 gT (T6 (.slice y0 b0 g0) (.slice y1 b1 g1) sl0 sl1 (.slice y2 b2 g2) (.slice y3 b3 g3)) 33) := HBX5.out.1.below bal HBX5.out.1.lt
            have HB7 : Hid (Below w2.heap.size w2 W7) := belowCall HB5.out bal HB5.out.size
            clear oo bb al bal rkM HBX5 HB5 KI5 HRI5
            obtain ⟨W8, hW8⟩ : ∃ W, st6 W7 gT (.slice Ie0 i0 If0) (.slice Ie1 i1 If1) nl0 nl1 (.slice Ie2 i2 If2) (.slice Ie3 i3 If3) = W := ⟨_, rfl⟩
            have hfr := fr_put6 W7 gT (.slice Ie0 i0 If0) (.slice Ie1 i1 If1) nl0 nl1 (.slice Ie2 i2 If2) (.slice Ie3 i3 If3)
            rw [hW8] at hfr
            have HBX8 : Hid (Blk W8 gT (T6 (.slice Ie0 i0 If0) (.slice Ie1 i1 If1) nl0 nl1 (.slice Ie2 i2 If2) (.slice Ie3 i3 If3)) 33 ∧ Rk W8 (.slice Ie0 i0 If0) (.slice Ie1 i1 If1) (.slice Ie2 i2 If2) (.slice Ie3 i3 If3) N.z0 N.z1 N.n0 N.n1) := ⟨by rw [← hW8]; exact put6 HBX7.out _ _ _ _ _ _, HRI7.out.1.frK hfr (fun k hk e => HRI7.out.2.1 k hk e)⟩
            have HB8 : Hid (Below w2.heap.size w2 W8) := HB7.out.trans (hfr.below HB7.out.size (fun k e => by have := HGT.out; omega))
            clear hfr
            have y0 := KI7.out.cell 0
            have y1 := KI7.out.cell 1
            have y2 := KI7.out.cell 2
            have y3 := KI7.out.cell 3
            have y4 := KI7.out.cell 4
            have y5 := KI7.out.cell 5
            have yl := KI7.out.lt
            simp at y0 y1 y2 y3 y4 y5
            have x0 := HBX7.out.cell 0
            have xf0 := HBX7.out.frozen 0
            have x1 := HBX7.out.cell 1
            have xf1 := HBX7.out.frozen 1
            have x2 := HBX7.out.cell 2
            have xf2 := HBX7.out.frozen 2
            have x3 := HBX7.out.cell 3
            have xf3 := HBX7.out.frozen 3
            have x4 := HBX7.out.cell 4
            have xf4 := HBX7.out.frozen 4
            have x5 := HBX7.out.cell 5
            have xf5 := HBX7.out.frozen 5
            have xl := HBX7.out.lt
            simp at x0 x1 x2 x3 x4 x5
            have r0 := HBX8.out.1.cell 0
            have r1 := HBX8.out.1.cell 1
            have r2 := HBX8.out.1.cell 2
            have r3 := HBX8.out.1.cell 3
            have r4 := HBX8.out.1.cell 4
            have r5 := HBX8.out.1.cell 5
            have rl := HBX8.out.1.lt
            simp at r0 r1 r2 r3 r4 r5
            have hgt := HRI7.out.2.2
            go_wp2_with (fail)
            try rw [hW8]
            clear hW7 hW8 hgt
            clear y0 y1 y2 y3 y4 y5 yl x0 x1 x2 x3 x4 x5 xl r0 r1 r2 r3 r4 r5 rl xf0 xf1 xf2 xf3 xf4 xf5
            refine (okM_c _ _ _ _ nl0 nl1 N.z0 N.z1 N.n0 N.n1 W8 HBX8.out.2).mono ?_
            rintro e w9 ⟨q, rfl, hq, b9⟩
            obtain rfl : q = true := hq.2 (by rw [← HNL.out.1, ← HNL.out.2]; exact HNA.out.1.ok)
            have HBX9 : Hid (Blk w9 gT (T6 (.slice Ie0 i0 If0) (.slice Ie1 i1 If1) nl0 nl1 (.slice Ie2 i2 If2) (.slice Ie3 i3 If3)) 33 ∧ Rk w9 (.slice Ie0 i0 If0) (.slice Ie1 i1 If1) (.slice Ie2 i2 If2) (.slice Ie3 i3 If3) N.z0 N.z1 N.n0 N.n1) := ⟨HBX8.out.1.below b9 HBX8.out.1.lt, HBX8.out.2.below b9⟩
            have HB9 : Hid (Below w2.heap.size w2 w9) := belowCall HB8.out b9 HB8.out.size
            clear hq b9
            go_wp2
            go_roundw
            case rel => exact ⟨j + 1, N, _, _, _, _, asked, left, by go_num, by go_num, by go_num, ⟨by rw [HNL.out.1, HNL.out.2]; exact HBX9.out.1, HBX9.out.2⟩, ⟨HNA.out.1, HNA.out.2, by have := HDA.out.2.2; omega⟩, HB9.out⟩
            case measure => simp [intOf]; omega
    · obtain rfl : j = K := by omega
      obtain ⟨y0, g0, hx0, -⟩ := HBX.out.2.r0
      obtain ⟨y1, g1, hx1, -⟩ := HBX.out.2.r1
      obtain ⟨y2, g2, hx2, -⟩ := HBX.out.2.r2
      obtain ⟨y3, g3, hx3, -⟩ := HBX.out.2.r3
      obtain ⟨b0, hb0⟩ : ∃ q, sz0.length = q := ⟨_, rfl⟩
      rw [hb0] at hx0
      clear hb0
      obtain ⟨b1, hb1⟩ : ∃ q, sz1.length = q := ⟨_, rfl⟩
      rw [hb1] at hx1
      clear hb1
      obtain ⟨b2, hb2⟩ : ∃ q, sn0.length = q := ⟨_, rfl⟩
      rw [hb2] at hx2
      clear hb2
      obtain ⟨b3, hb3⟩ : ∃ q, sn1.length = q := ⟨_, rfl⟩
      rw [hb3] at hx3
      clear hb3
      subst hx0 hx1 hx2 hx3
      obtain ⟨hday, hacc, hstill⟩ := Day.ends (n := nn) (asked := asked) (left := left) (by omega) (Ts.mk sl0 sl1 sz0 sz1 sn0 sn1).wt (Ts.mk sl0 sl1 sz0 sz1 sn0 sn1) (Nat.le_refl _) HDA.out.1 HDA.out.2.1
      obtain ⟨N, hN⟩ : ∃ N, (Ts.mk sl0 sl1 sz0 sz1 sn0 sn1).all = N := ⟨_, rfl⟩
      rw [hN] at hday hacc hstill
      have HNA : Hid (Day nn N ∧ Acc N asked left ∧ N.still = true) := ⟨hday, hacc, hstill⟩
      have hok := HDA.out.1.ok
      have HTO : Hid (TOk sz0 sz1 sl0 sl1 sn0 sn1) := hok
      clear hday hacc hstill hok
      have HN : Hid ((Ts.mk sl0 sl1 sz0 sz1 sn0 sn1).all = N) := hN
      clear hN
      have x0 := HBX.out.1.cell 0
      have x1 := HBX.out.1.cell 1
      have x2 := HBX.out.1.cell 2
      have x3 := HBX.out.1.cell 3
      have x4 := HBX.out.1.cell 4
      have x5 := HBX.out.1.cell 5
      have xl := HBX.out.1.lt
      simp at x0 x1 x2 x3 x4 x5
      go_wp2_with (fail)
      clear x0 x1 x2 x3 x4 x5 xl
      refine (carryAllI_c _ _ _ _ sl0 sl1 sz0 sz1 sn0 sn1 wr HBX.out.2 HSL.out).mono ?_
      rintro e w4 hx
      have hx1 := hx.1 HTO.out
      have hx2 : TcR (Ts.mk sl0 sl1 sz0 sz1 sn0 sn1).all.l0 (Ts.mk sl0 sl1 sz0 sz1 sn0 sn1).all.l1 (Ts.mk sl0 sl1 sz0 sz1 sn0 sn1).all.z0 (Ts.mk sl0 sl1 sz0 sz1 sn0 sn1).all.z1 (Ts.mk sl0 sl1 sz0 sz1 sn0 sn1).all.n0 (Ts.mk sl0 sl1 sz0 sz1 sn0 sn1).all.n1 wr e w4 := hx1
      rw [HN.out] at hx2
      clear hx hx1
      obtain ⟨v0, v1, v2, v3, rfl, oo, bb⟩ := hx2
      have rkI := oo.rd
      obtain ⟨Ie0, If0, hf0, -⟩ := rkI.r0
      obtain ⟨Ie1, If1, hf1, -⟩ := rkI.r1
      obtain ⟨Ie2, If2, hf2, -⟩ := rkI.r2
      obtain ⟨Ie3, If3, hf3, -⟩ := rkI.r3
      obtain ⟨i0, hi0⟩ : ∃ q, N.z0.length = q := ⟨_, rfl⟩
      rw [hi0] at hf0
      clear hi0
      obtain ⟨i1, hi1⟩ : ∃ q, N.z1.length = q := ⟨_, rfl⟩
      rw [hi1] at hf1
      clear hi1
      obtain ⟨i2, hi2⟩ : ∃ q, N.n0.length = q := ⟨_, rfl⟩
      rw [hi2] at hf2
      clear hi2
      obtain ⟨i3, hi3⟩ : ∃ q, N.n1.length = q := ⟨_, rfl⟩
      rw [hi3] at hf3
      clear hi3
      subst hf0 hf1 hf2 hf3
      obtain ⟨nl0, hnl0⟩ : ∃ q, N.l0 = q := ⟨_, rfl⟩
      obtain ⟨nl1, hnl1⟩ : ∃ q, N.l1 = q := ⟨_, rfl⟩
      have HNL : Hid (N.l0 = nl0 ∧ N.l1 = nl1) := ⟨hnl0, hnl1⟩
      rw [hnl0, hnl1]
      clear hnl0 hnl1
      obtain ⟨W5, hW5⟩ : ∃ W, w4.alloc (Obj.cells (T6 (.slice Ie0 i0 If0) (.slice Ie1 i1 If1) nl0 nl1 (.slice Ie2 i2 If2) (.slice Ie3 i3 If3)) 33) = W := ⟨_, rfl⟩
      obtain ⟨g5, hg5⟩ : ∃ k, w4.heap.size = k := ⟨_, rfl⟩
      have al : Below w4.heap.size w4 W5 := by rw [← hW5]; exact (Below.refl _ _).alloc (Nat.le_refl _) _
      have bal : Below wr.heap.size wr W5 := belowCall bb al bb.size
      have KI5 : Hid (Blk W5 g5 (T6 (.slice Ie0 i0 If0) (.slice Ie1 i1 If1) nl0 nl1 (.slice Ie2 i2 If2) (.slice Ie3 i3 If3)) 33 ∧ Rk W5 (.slice Ie0 i0 If0) (.slice Ie1 i1 If1) (.slice Ie2 i2 If2) (.slice Ie3 i3 If3) N.z0 N.z1 N.n0 N.n1) := ⟨by rw [← hW5, ← hg5]; exact Blk.new _ _ _, rkI.below al⟩
      have HB5 : Hid (Below w.heap.size w W5) := belowCall HB2.out (belowCall HB.out bal HB.out.size) HB2.out.size
      clear oo bb al bal rkI HBX HB
      have x0 := KI5.out.1.cell 0
      have x1 := KI5.out.1.cell 1
      have x2 := KI5.out.1.cell 2
      have x3 := KI5.out.1.cell 3
      have x4 := KI5.out.1.cell 4
      have x5 := KI5.out.1.cell 5
      have xl := KI5.out.1.lt
      simp at x0 x1 x2 x3 x4 x5
      go_wp2_with (fail)
      try rw [hg5]
      clear hW5 hg5
      clear x0 x1 x2 x3 x4 x5 xl
      refine (okM_c _ _ _ _ nl0 nl1 N.z0 N.z1 N.n0 N.n1 W5 KI5.out.2).mono ?_
      rintro e w6 ⟨q, rfl, hq, bq⟩
      obtain rfl : q = true := hq.2 (by rw [← HNL.out.1, ← HNL.out.2]; exact HNA.out.1.ok)
      have KI6 : Hid (Blk w6 g5 (T6 (.slice Ie0 i0 If0) (.slice Ie1 i1 If1) nl0 nl1 (.slice Ie2 i2 If2) (.slice Ie3 i3 If3)) 33 ∧ Rk w6 (.slice Ie0 i0 If0) (.slice Ie1 i1 If1) (.slice Ie2 i2 If2) (.slice Ie3 i3 If3) N.z0 N.z1 N.n0 N.n1) := ⟨KI5.out.1.below bq KI5.out.1.lt, KI5.out.2.below bq⟩
      have HB6 : Hid (Below w.heap.size w w6) := belowCall HB5.out bq HB5.out.size
      clear hq bq KI5 HB5
      have x0 := KI6.out.1.cell 0
      have x1 := KI6.out.1.cell 1
      have x2 := KI6.out.1.cell 2
      have x3 := KI6.out.1.cell 3
      have x4 := KI6.out.1.cell 4
      have x5 := KI6.out.1.cell 5
      have xl := KI6.out.1.lt
      simp at x0 x1 x2 x3 x4 x5
      go_wp2_with (fail)
      clear x0 x1 x2 x3 x4 x5 xl
      refine (setI_c _ _ _ _ nl0 nl1 N.z0 N.z1 N.n0 N.n1 w6 KI6.out.2).mono ?_
      rintro e w7 ⟨q, rfl, hq, bq⟩
      obtain rfl : q = true := hq.2 (by rw [← HNL.out.1, ← HNL.out.2]; exact HNA.out.1.settled HNA.out.2.2)
      have KI7 : Hid (Blk w7 g5 (T6 (.slice Ie0 i0 If0) (.slice Ie1 i1 If1) nl0 nl1 (.slice Ie2 i2 If2) (.slice Ie3 i3 If3)) 33 ∧ Rk w7 (.slice Ie0 i0 If0) (.slice Ie1 i1 If1) (.slice Ie2 i2 If2) (.slice Ie3 i3 If3) N.z0 N.z1 N.n0 N.n1) := ⟨KI6.out.1.below bq KI6.out.1.lt, KI6.out.2.below bq⟩
      have HB7 : Hid (Below w.heap.size w w7) := belowCall HB6.out bq HB6.out.size
      clear hq bq KI6 HB6
      have x0 := KI7.out.1.cell 0
      have x1 := KI7.out.1.cell 1
      have x2 := KI7.out.1.cell 2
      have x3 := KI7.out.1.cell 3
      have x4 := KI7.out.1.cell 4
      have x5 := KI7.out.1.cell 5
      have xl := KI7.out.1.lt
      simp at x0 x1 x2 x3 x4 x5
      go_wp2_with (fail)
      clear x0 x1 x2 x3 x4 x5 xl
      refine (setM_c _ _ _ _ nl0 nl1 N.z0 N.z1 N.n0 N.n1 w7 KI7.out.2).mono ?_
      rintro e w8 ⟨q, rfl, hq, bq⟩
      obtain rfl : q = true := hq.2 (by rw [← HNL.out.1, ← HNL.out.2]; exact HNA.out.1.settled HNA.out.2.2)
      have KI8 : Hid (Blk w8 g5 (T6 (.slice Ie0 i0 If0) (.slice Ie1 i1 If1) nl0 nl1 (.slice Ie2 i2 If2) (.slice Ie3 i3 If3)) 33 ∧ Rk w8 (.slice Ie0 i0 If0) (.slice Ie1 i1 If1) (.slice Ie2 i2 If2) (.slice Ie3 i3 If3) N.z0 N.z1 N.n0 N.n1) := ⟨KI7.out.1.below bq KI7.out.1.lt, KI7.out.2.below bq⟩
      have HB8 : Hid (Below w.heap.size w w8) := belowCall HB7.out bq HB7.out.size
      clear hq bq KI7 HB7
      have x0 := KI8.out.1.cell 0
      have x1 := KI8.out.1.cell 1
      have x2 := KI8.out.1.cell 2
      have x3 := KI8.out.1.cell 3
      have x4 := KI8.out.1.cell 4
      have x5 := KI8.out.1.cell 5
      have xl := KI8.out.1.lt
      simp at x0 x1 x2 x3 x4 x5
      have hnz0 : N.z0.length = nn := HNA.out.1.len
      have hnz1 : N.z1.length = nn := by have h1 := HNA.out.1.ok.2.1; omega
      have HN6 := HNN.out
      obtain ⟨ra, rb, hr1, -, -, hr⟩ := KI8.out.2.r0
      obtain ⟨rc, rd, hr2, -, -, hr'⟩ := KI8.out.2.r1
      rw [hnz0] at hr1
      rw [hnz1] at hr2
      obtain ⟨rfl, rfl, rfl⟩ : ra = Ie0 ∧ nn = i0 ∧ rb = If0 := by injection hr1 with e1 e2 e3; exact ⟨e1.symm, e2.symm, e3.symm⟩
      obtain ⟨rfl, rfl, rfl⟩ : rc = Ie1 ∧ nn = i1 ∧ rd = If1 := by injection hr2 with e1 e2 e3; exact ⟨e1.symm, e2.symm, e3.symm⟩
      obtain ⟨B0, o0, rfl, hc0⟩ : ∃ b off, ra = some ⟨b, off, none⟩ ∧ ∀ i, i < N.z0.length → w8.cell? ⟨b, off + i, none⟩ = some (.int .i64 (N.z0.getD i 0)) := by
        rcases hr with h | h
        · rw [h] at hnz0; simp at hnz0; omega
        · exact h
      obtain ⟨B1, o1, rfl, hc1⟩ : ∃ b off, rc = some ⟨b, off, none⟩ ∧ ∀ i, i < N.z1.length → w8.cell? ⟨b, off + i, none⟩ = some (.int .i64 (N.z1.getD i 0)) := by
        rcases hr' with h | h
        · rw [h] at hnz1; simp at hnz1; omega
        · exact h
      rw [hnz0] at hc0
      rw [hnz1] at hc1
      have HC0 : Hid (∀ i, i < nn → w8.cell? ⟨B0, o0 + i, none⟩ = some (.int .i64 (N.z0.getD i 0))) := hc0
      have HC1 : Hid (∀ i, i < nn → w8.cell? ⟨B1, o1 + i, none⟩ = some (.int .i64 (N.z1.getD i 0))) := hc1
      have hmn := HNA.out.1.mine HNA.out.2.2
      obtain ⟨M0, hM0⟩ : ∃ q, mineN N.z0 nn = q := ⟨_, rfl⟩
      obtain ⟨M1, hM1⟩ : ∃ q, mineN N.z1 nn = q := ⟨_, rfl⟩
      have HM0 : Hid (mineN N.z0 nn = M0) := hM0
      have HM1 : Hid (mineN N.z1 nn = M1) := hM1
      have hfin : asked = M0 + M1 + left + nl0 + nl1 ∧ 0 ≤ M0 ∧ 0 ≤ M1 ∧ 0 ≤ nl0 ∧ 0 ≤ nl1 := by
        have h1 := HNA.out.2.1.1
        have h2 := cnt_nn N.z0
        have h3 := cnt_nn N.z1
        have h4 := HNA.out.1.ok.2.2.1.2.1.1
        have h5 := HNA.out.1.ok.2.2.2.2.1.1
        rw [← hmn.1, hM0] at h1 h2
        rw [← hmn.2, hM1] at h1 h3
        rw [HNL.out.1] at h1 h4
        rw [HNL.out.2] at h1 h5
        exact ⟨h1, by omega, by omega, h4, h5⟩
      obtain ⟨hfa, hf1, hf2, hf3, hf4⟩ := hfin
      have HFA : Hid (asked = M0 + M1 + left + nl0 + nl1) := hfa
      have hbq : M0 ≤ 100 ∧ M1 ≤ 100 ∧ left ≤ 100 ∧ nl0 ≤ 100 ∧ nl1 ≤ 100 := by omega
      obtain ⟨hg1, hg2, hg3, hg4, hg5⟩ := hbq
      have hnn : nn ≤ 6 := HN6.2
      clear hc0 hc1 hr hr' hnz0 hnz1 hmn hM0 hM1 hfa HN6 hr1 hr2
      obtain ⟨PW, hPW⟩ : ∃ P : World → Prop, ∀ W, P W ↔ W = w8 := ⟨_, fun _ => Iff.rfl⟩
      have HPW : Hid (∀ W, PW W ↔ W = w8) := hPW
      clear hPW
      go_wp2
      refine wp_loop_rounds 3 ?_
      rw [rounds_succ]
      go_wp2
      go_loopw [25, 27] (fun m i wr => ∃ jj : Nat, jj ≤ nn ∧ i = .int .i64 jj ∧ m = .int .i64 (mineN N.z0 jj) ∧ Hid (PW wr)) (fun _ i _ => nn - (intOf i).toNat)
      case atStart => exact ⟨0, Nat.zero_le _, rfl, rfl, (HPW.out _).2 rfl⟩
      case round =>
        obtain ⟨jj, hjj, rfl, rfl, hwr⟩ := hrel
        have hw := (HPW.out _).1 hwr.out
        clear hwr
        subst hw
        have hmb := mineN_bd N.z0 jj
        obtain ⟨mm, hmm⟩ : ∃ q, mineN N.z0 jj = q := ⟨_, rfl⟩
        have HMM : Hid (mineN N.z0 jj = mm) := hmm
        rw [hmm] at hmb ⊢
        clear hmm
        by_cases hjn : jj < nn
        · have hcc := HC0.out jj hjn
          obtain ⟨zz, hzz⟩ : ∃ q, N.z0.getD jj 0 = q := ⟨_, rfl⟩
          rw [hzz] at hcc
          have HSU : Hid (mineN N.z0 (jj + 1) = mm + (if zz = 2 then 1 else 0)) := by show _ = _; rw [mineN, HMM.out, hzz]
          clear hzz
          have hi0 : (0 : Int) ≤ (jj : Int) := by omega
          have hi1 : (jj : Int) < (nn : Int) := by omega
          by_cases hz2 : zz = 2
          · have HS1 : Hid (mineN N.z0 (jj + 1) = mm + 1) := by show _ = _; rw [HSU.out, if_pos hz2]
            have hzd : (zz == 2) = true := by simp [hz2]
            clear hz2
            go_wp2
            go_roundw
            case rel => exact ⟨jj + 1, by omega, by go_num, by rw [HS1.out], (HPW.out _).2 rfl⟩
            case measure => simp [intOf]; omega
          · have HS1 : Hid (mineN N.z0 (jj + 1) = mm) := by show _ = _; rw [HSU.out, if_neg hz2]; omega
            have hzd : (zz == 2) = false := by simp [hz2]
            clear hz2
            go_wp2
            go_roundw
            case rel => exact ⟨jj + 1, by omega, by go_num, by rw [HS1.out], (HPW.out _).2 rfl⟩
            case measure => simp [intOf]; omega
        obtain rfl : nn = jj := by omega
        obtain rfl : M0 = mm := by rw [← HMM.out]; exact HM0.out.symm
        go_wp2
        rw [rounds_succ]
        go_wp2
        go_loopw [25, 27] (fun m i wr' => ∃ jj : Nat, jj ≤ nn ∧ i = .int .i64 jj ∧ m = .int .i64 (M0 + mineN N.z1 jj) ∧ Hid (PW wr')) (fun _ i _ => nn - (intOf i).toNat)
        case atStart => exact ⟨0, Nat.zero_le _, rfl, by rw [mineN]; simp, (HPW.out _).2 rfl⟩
        case round =>
          obtain ⟨jj, hjj, rfl, rfl, hwr⟩ := hrel
          have hw := (HPW.out _).1 hwr.out
          clear hwr
          subst hw
          have hmb := mineN_bd N.z1 jj
          obtain ⟨mm, hmm⟩ : ∃ q, mineN N.z1 jj = q := ⟨_, rfl⟩
          have HMM : Hid (mineN N.z1 jj = mm) := hmm
          rw [hmm] at hmb ⊢
          clear hmm
          by_cases hjn : jj < nn
          · have hcc := HC1.out jj hjn
            obtain ⟨zz, hzz⟩ : ∃ q, N.z1.getD jj 0 = q := ⟨_, rfl⟩
            rw [hzz] at hcc
            have HSU : Hid (mineN N.z1 (jj + 1) = mm + (if zz = 2 then 1 else 0)) := by show _ = _; rw [mineN, HMM.out, hzz]
            clear hzz
            have hi0 : (0 : Int) ≤ (jj : Int) := by omega
            have hi1 : (jj : Int) < (nn : Int) := by omega
            by_cases hz2 : zz = 2
            · have HS1 : Hid (mineN N.z1 (jj + 1) = mm + 1) := by show _ = _; rw [HSU.out, if_pos hz2]
              have hzd : (zz == 2) = true := by simp [hz2]
              clear hz2
              go_wp2
              go_roundw
              case rel => exact ⟨jj + 1, by omega, by go_num, by rw [HS1.out]; go_num, (HPW.out _).2 rfl⟩
              case measure => simp [intOf]; omega
            · have HS1 : Hid (mineN N.z1 (jj + 1) = mm) := by show _ = _; rw [HSU.out, if_neg hz2]; omega
              have hzd : (zz == 2) = false := by simp [hz2]
              clear hz2
              go_wp2
              go_roundw
              case rel => exact ⟨jj + 1, by omega, by go_num, by rw [HS1.out], (HPW.out _).2 rfl⟩
              case measure => simp [intOf]; omega
          obtain rfl : nn = jj := by omega
          obtain rfl : M1 = mm := by rw [← HMM.out]; exact HM1.out.symm
          have hbe : (asked == M0 + M1 + left + nl0 + nl1) = true := by rw [← HFA.out]; simp
          go_wp2
          rw [rounds_succ]
          go_wp2
          go_ret
          first | exact ⟨rfl, HB8.out⟩ | exact ⟨by rw [hbe]; rfl, HB8.out⟩
end Go.Proofs.Ytkehcalijamhjaa
