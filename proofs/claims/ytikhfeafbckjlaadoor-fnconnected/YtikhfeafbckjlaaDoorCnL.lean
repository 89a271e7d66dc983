/- FnConnected's body answers true at every code; no condition. -/
import Derived.Test.YtikhfeafbckjlaaDoorFDc
import Derived.Test.YtikhfeafbckjlaaDoorFCoM
import Derived.Test.YtikhfeafbckjlaaDoorFRelI
import Derived.Test.YtikhfeafbckjlaaDoorFOkI
namespace Go.Proofs.YtikhfeafbckjlaaDoor
open Go.RowKit Go.ChangeShapes Go.WideShapes Go.ChangeAt
set_option linter.unusedVariables false
set_option linter.unusedSimpArgs false
set_option maxRecDepth 8000
theorem con_cases {s p m f g : Int} {ps ps' : Tri} {ms : Mvs} {c : Int} (h : ConS s p m f g ps ps' ms c) : (c = 0 ∧ FOk s p m ps ∧ Done s p m f g ps ps' ms) ∨ ((c = 1 ∨ c = 2 ∨ c = 3) ∧ ps' = ps ∧ ms = [] ∧ (c = 3 → m < p)) := by
  have h' := h
  rcases h with ⟨h1, rfl, rfl, rfl⟩ | ⟨h1, h2, rfl, rfl, rfl⟩ | ⟨h1, h2, h3, rfl, rfl, rfl⟩ | ⟨h1, h2, h3, h4, rfl, rfl, rfl⟩ | ⟨h1, h2, h3, h4, K1, K2, k1, k2, rfl, rfl, rfl⟩
  · exact .inr ⟨by omega, rfl, rfl, fun h => by omega⟩
  · exact .inr ⟨by omega, rfl, rfl, fun h => by omega⟩
  · exact .inl ⟨rfl, con_done h'⟩
  · exact .inr ⟨by omega, rfl, rfl, fun _ => blocked_weak h1.1 h2 h4⟩
  · exact .inl ⟨rfl, con_done h'⟩
/-- the law at work: the fabric, and the one behind -/
structure Cn (w : World) (b3 b6 : Nat) (s p m : Int) (V V' : Value) (ls ls' : Tri) (W : World) : Prop where
  bel : Below w.heap.size w W
  box : Blk W b3 (F4 s p m V) 26
  own : Rt W V ls
  nxt : Blk W b6 (F4 s p m V') 26
  own' : Rt W V' ls'
theorem Cn.below {w : World} {b3 b6 : Nat} {s p m : Int} {V V' : Value} {ls ls' : Tri} {W W' : World} (h : Cn w b3 b6 s p m V V' ls ls' W) (hb : Below W.heap.size W W') : Cn w b3 b6 s p m V V' ls ls' W' :=
  ⟨belowCall h.bel hb h.bel.size, h.box.below hb h.box.lt, h.own.below hb, h.nxt.below hb h.nxt.lt, h.own'.below hb⟩
set_option maxHeartbeats 12800000 in
theorem connectedLaw (v : Value) (cs : List Int) (w : World) (h : Rd .u8 w v cs) (hwz : ∀ z ∈ cs, (Lit.int .u8 z).wf = true) (hN : NoP w ∧ Tab w) :
   Calls Tryd.prog 3 #[v] w fun e w' => e = .returned (.bool true) ∧ Below w.heap.size w w' := by
  have hz : ∀ z ∈ cs, 0 ≤ z ∧ z ≤ 255 := fun z hm => bounds_u8 (hwz z hm)
  clear hwz
  have HNP : Hid (∀ W, Below w.heap.size w W → NoP W ∧ Tab W) := fun W hb => ⟨hN.1.below hb hN.1.lt, hN.2.below hb hN.2.lt⟩
  clear hN
  obtain ⟨a, cap, hv, h1, h2, h3⟩ := id h
  subst hv
  clear h3
  unfold maxLen at h2
  by_cases hbig : 1048576 < cs.length
  · have hb : decide ((1048576 : Int) < (cs.length : Int)) = true := by simp; omega
    clear hz h
    go_enter Tryd.func3, Tryd.ntmps3
    go_wp2
    go_ret
    exact ⟨rfl, Below.refl _ _⟩
  have hb : decide ((1048576 : Int) < (cs.length : Int)) = false := by simp; omega
  have hlen : cs.length ≤ 1048576 := by omega
  have HZ : Hid (∀ z ∈ cs, 0 ≤ z ∧ z ≤ 255) := hz
  have HRD : Hid (Rd .u8 w (.slice a cs.length cap) cs) := h
  clear hz h hbig
  go_enter Tryd.func3, Tryd.ntmps3
  go_wp2_with (go_at_call 8; go_in)
  refine (drawConnect_c _ cs w HRD.out HZ.out hlen).mono ?_
  rintro e w1 ⟨s, p, m, V, ls, f, t, rfl, hp, hll, o1, bb1⟩
  obtain ⟨av, cpv, hV, -⟩ := own_form o1
  obtain ⟨ln, hln⟩ : ∃ ln, ls.length = ln := ⟨_, rfl⟩
  rw [hln] at hV
  subst hV
  have HLN : Hid (ls.length = ln) := hln
  obtain ⟨W2, hW2⟩ : ∃ W2, w1.alloc (Obj.cells (F4 s p m (.slice av ln cpv)) 26) = W2 := ⟨_, rfl⟩
  obtain ⟨b3, hb3⟩ : ∃ b3, w1.heap.size = b3 := ⟨_, rfl⟩
  have b12 : Below w1.heap.size w1 W2 := hW2 ▸ (Below.refl _ _).alloc (Nat.le_refl _) _
  have HB2 : Hid (Below w.heap.size w W2 ∧ Blk W2 b3 (F4 s p m (.slice av ln cpv)) 26 ∧ Rt W2 (.slice av ln cpv) ls) := ⟨belowCall bb1 b12 bb1.size, by rw [← hb3]; exact hW2 ▸ Blk.new _ _ _, o1.rd.below b12⟩
  have HW2 : Hid (w1.alloc (Obj.cells (F4 s p m (.slice av ln cpv)) 26) = W2) := hW2
  clear hW2 b12 o1 bb1 HRD HZ
  go_wp2_with (fail)
  rw [HW2.out]
  clear HW2 hb3
  refine (conI_c s p m f t _ ls W2 HB2.out.2.2 (HNP.out _ HB2.out.1).1 (HNP.out _ HB2.out.1).2 (by omega)).mono ?_
  rintro e w3 ⟨vc, lc', mvc, mc, cc, rfl, hsc, oc, omc, -, bc⟩
  obtain ⟨ac, cpc, hvc, -⟩ := own_form oc
  obtain ⟨lc, hlc⟩ : ∃ lc, lc'.length = lc := ⟨_, rfl⟩
  rw [hlc] at hvc
  subst hvc
  have HLC : Hid (lc'.length = lc) := hlc
  obtain ⟨amc, cmc, hmvc, -, -⟩ := own_form2 omc
  obtain ⟨K, hK⟩ : ∃ K, mc.length = K := ⟨_, rfl⟩
  rw [hK] at hmvc
  subst hmvc
  have HK : Hid (mc.length = K) := hK
  have HSC : Hid (ConS s p m f t ls lc' mc cc) := hsc
  obtain ⟨W4, hW4⟩ : ∃ W4, w3.alloc (Obj.cells (F4 s p m (.slice ac lc cpc)) 26) = W4 := ⟨_, rfl⟩
  obtain ⟨b6, hb6⟩ : ∃ b6, w3.heap.size = b6 := ⟨_, rfl⟩
  have b34 : Below w3.heap.size w3 W4 := hW4 ▸ (Below.refl _ _).alloc (Nat.le_refl _) _
  have bw3 : Below w.heap.size w w3 := belowCall HB2.out.1 bc HB2.out.1.size
  have N4 : Hid (Cn w b3 b6 s p m (.slice av ln cpv) (.slice ac lc cpc) ls lc' W4) := ⟨belowCall bw3 b34 bw3.size, Blk.below (HB2.out.2.1.below bc HB2.out.2.1.lt) b34 (Nat.lt_of_lt_of_le HB2.out.2.1.lt bc.size), (HB2.out.2.2.below bc).below b34, by rw [← hb6]; exact hW4 ▸ Blk.new _ _ _, oc.rd.below b34⟩
  have x0 : w3.cell? ⟨b3, 0, none⟩ = some (.int .i64 s) := (HB2.out.2.1.below bc HB2.out.2.1.lt).cell 0
  have x1 : w3.cell? ⟨b3, 1, none⟩ = some (.int .i64 p) := (HB2.out.2.1.below bc HB2.out.2.1.lt).cell 1
  have x2 : w3.cell? ⟨b3, 2, none⟩ = some (.int .i64 m) := (HB2.out.2.1.below bc HB2.out.2.1.lt).cell 2
  have x3 : w3.cell? ⟨b3, 3, none⟩ = some (.slice av ln cpv) := (HB2.out.2.1.below bc HB2.out.2.1.lt).cell 3
  have x4 : b3 < w3.heap.size := Nat.lt_of_lt_of_le HB2.out.2.1.lt bc.size
  have x5 : b3 < b6 := by omega
  have x6 : ¬ (b3 = b6) := by omega
  have HW4 : Hid (w3.alloc (Obj.cells (F4 s p m (.slice ac lc cpc)) 26) = W4) := hW4
  clear hW4 b34 bw3 oc omc bc hsc hK HB2 hlc
  have hlcl : lc ≤ 29 := by have := HSC.out.len.1; have := HLC.out; omega
  go_wp2_with (fail)
  rw [HW4.out]
  clear HW4 hb6 x0 x1 x2 x3 x4 x5 x6
  refine (conM_c s p m f t _ ls W4 N4.out.own (by omega)).mono ?_
  rintro e w5 ⟨vw, lw, mvw, mw, cw, rfl, hsw, ow, omw, -, bw⟩
  obtain ⟨rfl, rfl, rfl⟩ := ConS.same hsw HSC.out
  obtain ⟨aw, cpw, hvw, -⟩ := own_form ow
  rw [HLC.out] at hvw
  subst hvw
  obtain ⟨amw, cmw, hmvw, -, -⟩ := own_form2 omw
  rw [HK.out] at hmvw
  subst hmvw
  have N5 : Hid (Cn w b3 b6 s p m (.slice av ln cpv) (.slice ac lc cpc) ls lw w5) := N4.out.below bw
  obtain ⟨W6, hW6⟩ : ∃ W6, w5.alloc (Obj.cells (F4 s p m (.slice aw lc cpw)) 26) = W6 := ⟨_, rfl⟩
  have N6 : Hid (Cn w b3 b6 s p m (.slice av ln cpv) (.slice ac lc cpc) ls lw W6) := N5.out.below (hW6 ▸ (Below.refl _ _).alloc (Nat.le_refl _) _)
  have HW6 : Hid (w5.alloc (Obj.cells (F4 s p m (.slice aw lc cpw)) 26) = W6) := hW6
  clear hW6 ow omw bw hsw N4
  have c0 := N5.out.box.cell 0
  have c1 := N5.out.box.cell 1
  have c2 := N5.out.box.cell 2
  have c3 := N5.out.box.cell 3
  have q0 := N5.out.nxt.cell 0
  have q1 := N5.out.nxt.cell 1
  have q2 := N5.out.nxt.cell 2
  have q3 := N5.out.nxt.cell 3
  simp at c0 c1 c2 c3 q0 q1 q2 q3
  have hb3 : b3 < w5.heap.size := N5.out.box.lt
  have hb6 : b6 < w5.heap.size := N5.out.nxt.lt
  have hcq : (cw != cw) = false := by simp
  have hkq : (((K : Nat) : Int) != ((K : Nat) : Int)) = false := by simp
  go_wp2_with (fail)
  rw [HW6.out]
  clear HW6 N5 c0 c1 c2 c3 q0 q1 q2 q3 hb3 hb6
  refine (strI_c 2 3 W6).mono ?_
  rintro e w7 ⟨rfl, b7⟩
  have N7 : Hid (Cn w b3 b6 s p m (.slice av ln cpv) (.slice ac lc cpc) ls lw w7) := N6.out.below b7
  clear N6 b7
  rw [show strV 2 3 = 2 by decide]
  go_wp2_with (fail)
  refine (strI_c 2 2 w7).mono ?_
  rintro e w8 ⟨rfl, b8⟩
  have N8 : Hid (Cn w b3 b6 s p m (.slice av ln cpv) (.slice ac lc cpc) ls lw w8) := N7.out.below b8
  clear N7 b8
  rw [show strV 2 2 = 1 by decide]
  have c0 := N8.out.box.cell 0
  have c1 := N8.out.box.cell 1
  have c2 := N8.out.box.cell 2
  have c3 := N8.out.box.cell 3
  have q0 := N8.out.nxt.cell 0
  have q1 := N8.out.nxt.cell 1
  have q2 := N8.out.nxt.cell 2
  have q3 := N8.out.nxt.cell 3
  simp at c0 c1 c2 c3 q0 q1 q2 q3
  have hb3 : b3 < w8.heap.size := N8.out.box.lt
  have hb6 : b6 < w8.heap.size := N8.out.nxt.lt
  go_wp2_with (fail)
  refine (ok_c s p m _ ls w8 N8.out.own).mono ?_
  rintro e w9 ⟨r, rfl, hr, b9⟩
  have N9 : Hid (Cn w b3 b6 s p m (.slice av ln cpv) (.slice ac lc cpc) ls lw w9) := N8.out.below b9
  clear N8 b9 c0 c1 c2 c3 q0 q1 q2 q3 hb3 hb6 hcq hkq
  have c0 := N9.out.box.cell 0
  have c1 := N9.out.box.cell 1
  have c2 := N9.out.box.cell 2
  have c3 := N9.out.box.cell 3
  have q0 := N9.out.nxt.cell 0
  have q1 := N9.out.nxt.cell 1
  have q2 := N9.out.nxt.cell 2
  have q3 := N9.out.nxt.cell 3
  simp at c0 c1 c2 c3 q0 q1 q2 q3
  have hb3 : b3 < w9.heap.size := N9.out.box.lt
  have hb6 : b6 < w9.heap.size := N9.out.nxt.lt
  rcases con_cases HSC.out with ⟨hc, hok, hd⟩ | ⟨hc, hls, hms, h3⟩
  case inr =>
    have hK0 : K = 0 := by have := HK.out; rw [hms] at this; exact this.symm
    have hlc0 : lc = ln := by have h1 := HLC.out; rw [hls] at h1; have h2 := HLN.out; omega
    subst hK0 hlc0
    have hee : (((lc : Nat) : Int) == ((lc : Nat) : Int)) = true := by simp
    clear hr hls hms HSC HK HLC
    cases r with
    | false =>
      rcases hc with hc | hc | hc
      · subst hc
        have HBF : Hid (Below w.heap.size w w9) := N9.out.bel
        clear N9
        go_wp2
        go_ret
        exact ⟨rfl, HBF.out⟩
      · subst hc
        have HBF : Hid (Below w.heap.size w w9) := N9.out.bel
        clear N9
        go_wp2
        go_ret
        exact ⟨rfl, HBF.out⟩
      · subst hc
        have HBF : Hid (Below w.heap.size w w9) := N9.out.bel
        clear N9
        go_wp2
        go_ret
        exact ⟨rfl, HBF.out⟩
    | true =>
      rcases hc with hc | hc | hc
      · subst hc
        have HBF : Hid (Below w.heap.size w w9) := N9.out.bel
        clear N9
        go_wp2
        go_ret
        exact ⟨rfl, HBF.out⟩
      · subst hc
        have HBF : Hid (Below w.heap.size w w9) := N9.out.bel
        clear N9
        go_wp2
        go_ret
        exact ⟨rfl, HBF.out⟩
      · have hmp := h3 hc
        subst hc
        go_wp2_with (fail)
        refine (strM_c p m w9 hp).mono ?_
        rintro e w10 ⟨rfl, b10⟩
        have N10 : Hid (Cn w b3 b6 s p m (.slice av lc cpv) (.slice ac lc cpc) ls lw w10) := N9.out.below b10
        clear N9 b10 c0 c1 c2 c3 q0 q1 q2 q3 hb3 hb6
        rw [show strV p m = 0 by rw [strV, if_neg (by omega), if_neg (by omega), if_neg (by omega)]]
        have c0 := N10.out.box.cell 0
        have c1 := N10.out.box.cell 1
        have c2 := N10.out.box.cell 2
        have c3 := N10.out.box.cell 3
        have q0 := N10.out.nxt.cell 0
        have q1 := N10.out.nxt.cell 1
        have q2 := N10.out.nxt.cell 2
        have q3 := N10.out.nxt.cell 3
        simp at c0 c1 c2 c3 q0 q1 q2 q3
        have hb3 : b3 < w10.heap.size := N10.out.box.lt
        have hb6 : b6 < w10.heap.size := N10.out.nxt.lt
        have HBF : Hid (Below w.heap.size w w10) := N10.out.bel
        clear N10
        go_wp2
        go_ret
        exact ⟨rfl, HBF.out⟩
  case inl =>
  subst hc
  have hrt : r = true := hr.2 hok
  subst hrt
  clear hr
  obtain ⟨qs, z, rfl, hql, hqok, hqe, hqc, hqm⟩ := id hd
  have HD : Hid (Done s p m f t ls (qs ++ [(f, t, z)]) mw) := hd
  have hlc1 : lc = ln + 1 := by have h1 := HLC.out; have h2 := HLN.out; simp at h1; omega
  have HQ : Hid (qs.length = ln ∧ FOk s p m (qs ++ [(f, t, z)]) ∧ (∀ i (h : i < ls.length) (h' : i < qs.length), qs[i].1 = ls[i].1 ∧ qs[i].2.1 = ls[i].2.1) ∧ cnt qs ls ls.length = K ∧ (2 * p - 1 ≤ m → K = 0)) := ⟨hql.trans HLN.out, hqok, hqe, hqc.trans HK.out, fun h => HK.out ▸ hqm h⟩
  clear hd hok hql hqok hqe hqc hqm HSC HK
  subst hlc1
  go_wp2_with (fail)
  refine (strM_c p m w9 hp).mono ?_
  rintro e w10 ⟨rfl, b10⟩
  have N10 : Hid (Cn w b3 b6 s p m (.slice av ln cpv) (.slice ac (ln + 1) cpc) ls (qs ++ [(f, t, z)]) w10) := N9.out.below b10
  clear N9 b10 c0 c1 c2 c3 q0 q1 q2 q3 hb3 hb6
  have c0 := N10.out.box.cell 0
  have c1 := N10.out.box.cell 1
  have c2 := N10.out.box.cell 2
  have c3 := N10.out.box.cell 3
  have q0 := N10.out.nxt.cell 0
  have q1 := N10.out.nxt.cell 1
  have q2 := N10.out.nxt.cell 2
  have q3 := N10.out.nxt.cell 3
  simp at c0 c1 c2 c3 q0 q1 q2 q3
  have hb3 : b3 < w10.heap.size := N10.out.box.lt
  have hb6 : b6 < w10.heap.size := N10.out.nxt.lt
  by_cases h2 : 2 * p - 1 ≤ m
  case pos =>
    have hs2 : strV p m = 2 := by rw [strV, if_neg (by omega), if_pos h2]
    have hK0 : K = 0 := HQ.out.2.2.2.2 h2
    have hk1 : ¬ ((0 : Int) < ((K : Nat) : Int)) := by omega
    rw [hs2]
    clear hs2 h2 hK0
    go_wp2_with (fail)
    refine (okI_c s p m _ (qs ++ [(f, t, z)]) w10 N10.out.own').mono ?_
    rintro e w11 ⟨r1, rfl, hr1, b11⟩
    obtain rfl : r1 = true := hr1.2 HQ.out.2.1
    have N11 : Hid (Cn w b3 b6 s p m (.slice av ln cpv) (.slice ac (ln + 1) cpc) ls (qs ++ [(f, t, z)]) w11) := N10.out.below b11
    clear N10 b11 hr1 c0 c1 c2 c3 q0 q1 q2 q3 hb3 hb6
    have c0 := N11.out.box.cell 0
    have c1 := N11.out.box.cell 1
    have c2 := N11.out.box.cell 2
    have c3 := N11.out.box.cell 3
    have q0 := N11.out.nxt.cell 0
    have q1 := N11.out.nxt.cell 1
    have q2 := N11.out.nxt.cell 2
    have q3 := N11.out.nxt.cell 3
    simp at c0 c1 c2 c3 q0 q1 q2 q3
    have hb3 : b3 < w11.heap.size := N11.out.box.lt
    have hb6 : b6 < w11.heap.size := N11.out.nxt.lt
    go_wp2_with (fail)
    refine (ok_c s p m _ (qs ++ [(f, t, z)]) w11 N11.out.own').mono ?_
    rintro e w12 ⟨r2, rfl, hr2, b12⟩
    obtain rfl : r2 = true := hr2.2 HQ.out.2.1
    have N12 : Hid (Cn w b3 b6 s p m (.slice av ln cpv) (.slice ac (ln + 1) cpc) ls (qs ++ [(f, t, z)]) w12) := N11.out.below b12
    clear N11 b12 hr2 c0 c1 c2 c3 q0 q1 q2 q3 hb3 hb6
    have c0 := N12.out.box.cell 0
    have c1 := N12.out.box.cell 1
    have c2 := N12.out.box.cell 2
    have c3 := N12.out.box.cell 3
    have q0 := N12.out.nxt.cell 0
    have q1 := N12.out.nxt.cell 1
    have q2 := N12.out.nxt.cell 2
    have q3 := N12.out.nxt.cell 3
    simp at c0 c1 c2 c3 q0 q1 q2 q3
    have hb3 : b3 < w12.heap.size := N12.out.box.lt
    have hb6 : b6 < w12.heap.size := N12.out.nxt.lt
    have hnq : (((ln + 1 : Nat) : Int) != ((ln : Nat) : Int) + 1) = false := by simp
    go_wp2
    clear c0 c1 c2 c3 q0 q1 q2 q3 hb3 hb6 hnq
    go_loopw [12, 13] (fun mo i wr => ∃ j : Nat, j ≤ ln ∧ i = .int .i64 j ∧ mo = .int .i64 ((cnt qs ls j : Nat) : Int) ∧ Hid (Cn w b3 b6 s p m (.slice av ln cpv) (.slice ac (ln + 1) cpc) ls (qs ++ [(f, t, z)]) wr)) (fun _ i _ => ln - (intOf i).toNat)
    case atStart => exact ⟨0, Nat.zero_le _, rfl, rfl, N12.out⟩
    case round =>
      obtain ⟨j, hj, rfl, rfl, NJ⟩ := hrel
      clear N12
      have hcl : cnt qs ls j ≤ j := by
        unfold cnt
        exact Nat.le_trans List.countP_le_length (by simp)
      obtain ⟨mo, hmo⟩ : ∃ mo, cnt qs ls j = mo := ⟨_, rfl⟩
      rw [hmo]
      have HMO : Hid (cnt qs ls j = mo) := hmo
      rw [hmo] at hcl
      clear hmo
      have c0 := NJ.out.box.cell 0
      have c1 := NJ.out.box.cell 1
      have c2 := NJ.out.box.cell 2
      have c3 := NJ.out.box.cell 3
      have q0 := NJ.out.nxt.cell 0
      have q1 := NJ.out.nxt.cell 1
      have q2 := NJ.out.nxt.cell 2
      have q3 := NJ.out.nxt.cell 3
      simp at c0 c1 c2 c3 q0 q1 q2 q3
      have hb3 : b3 < wr.heap.size := NJ.out.box.lt
      have hb6 : b6 < wr.heap.size := NJ.out.nxt.lt
      by_cases hlt : j < ln
      case pos =>
        have hjl : j < ls.length := by rw [HLN.out]; exact hlt
        have hjq : j < qs.length := by rw [HQ.out.1]; exact hlt
        obtain ⟨e1, e2⟩ := HQ.out.2.2.1 j hjl hjq
        obtain ⟨x, ex⟩ : ∃ x, ls[j].1 = x := ⟨_, rfl⟩
        obtain ⟨y, ey⟩ : ∃ y, ls[j].2.1 = y := ⟨_, rfl⟩
        obtain ⟨z1, ez1⟩ : ∃ y, ls[j].2.2 = y := ⟨_, rfl⟩
        obtain ⟨z2, ez2⟩ : ∃ y, qs[j].2.2 = y := ⟨_, rfl⟩
        rw [ex] at e1
        rw [ey] at e2
        have HCH : Hid (chg qs ls j = (z2 != z1)) := by
          show chg qs ls j = _
          rw [chg, List.getD_eq_getElem?_getD, List.getD_eq_getElem?_getD, List.getElem?_eq_getElem hjq, List.getElem?_eq_getElem hjl, Option.getD_some, Option.getD_some, ez1, ez2]
        obtain ⟨k1, k2, k3, k4, k5, k6⟩ := NJ.out.own
        injection k3 with i1 i2 i3
        subst i1 i3
        clear i2
        obtain ⟨bl, ol, rfl, k7⟩ : ∃ b off, av = some ⟨b, off, none⟩ ∧ ∀ i (h : i < ls.length), wr.cell? ⟨b, off + i * 3, none⟩ = some (.int .i64 ls[i].1) ∧ wr.cell? ⟨b, off + i * 3 + 1, none⟩ = some (.int .i64 ls[i].2.1) ∧ wr.cell? ⟨b, off + i * 3 + 2, none⟩ = some (.int .i64 ls[i].2.2) := by
          rcases k6 with h | h
          · rw [h] at hjl; simp at hjl
          · exact h
        obtain ⟨l1, l2, l3, l4, l5, l6⟩ := NJ.out.own'
        injection l3 with i1 i2 i3
        subst i1 i3
        clear i2
        obtain ⟨bq, oq, rfl, l7⟩ : ∃ b off, ac = some ⟨b, off, none⟩ ∧ ∀ i (h : i < (qs ++ [(f, t, z)]).length), wr.cell? ⟨b, off + i * 3, none⟩ = some (.int .i64 (qs ++ [(f, t, z)])[i].1) ∧ wr.cell? ⟨b, off + i * 3 + 1, none⟩ = some (.int .i64 (qs ++ [(f, t, z)])[i].2.1) ∧ wr.cell? ⟨b, off + i * 3 + 2, none⟩ = some (.int .i64 (qs ++ [(f, t, z)])[i].2.2) := by
          rcases l6 with h | h
          · simp at h
          · exact h
        have a := k7 j hjl
        rw [ex, ey, ez1] at a
        obtain ⟨a0, a1, a2⟩ := a
        have b := l7 j (by simp; omega)
        rw [List.getElem_append_left hjq, e1, e2, ez2] at b
        obtain ⟨d0, d1, d2⟩ := b
        have y3 : ∀ W : Ov wr, W.wd.cell? ⟨b3, 3, none⟩ = some (.slice (some ⟨bl, ol, none⟩) ln cpv) := ov_cell (NJ.out.box.cell 3)
        have y6 : ∀ W : Ov wr, W.wd.cell? ⟨b6, 3, none⟩ = some (.slice (some ⟨bq, oq, none⟩) (ln + 1) cpc) := ov_cell (NJ.out.nxt.cell 3)
        have ya0 : ∀ W : Ov wr, W.wd.cell? ⟨bl, ol + j * 3, none⟩ = some (.int .i64 x) := ov_cell a0
        have ya1 : ∀ W : Ov wr, W.wd.cell? ⟨bl, ol + j * 3 + 1, none⟩ = some (.int .i64 y) := ov_cell a1
        have yd0 : ∀ W : Ov wr, W.wd.cell? ⟨bq, oq + j * 3, none⟩ = some (.int .i64 x) := ov_cell d0
        have yd1 : ∀ W : Ov wr, W.wd.cell? ⟨bq, oq + j * 3 + 1, none⟩ = some (.int .i64 y) := ov_cell d1
        have ne : Nonempty (Ov wr) := ⟨⟨_, Below.refl _ _⟩⟩
        have hxx : (x != x) = false := by simp
        have hyy : (y != y) = false := by simp
        have hj1 : (j : Int) < (ln : Int) := by omega
        have hj2 : j < ln + 1 := by omega
        clear k6 k7 l6 l7 e1 e2 ex ey ez1 ez2
        have HA2 : Hid (wr.cell? ⟨bl, ol + j * 3 + 2, none⟩ = some (.int .i64 z1) ∧ wr.cell? ⟨bq, oq + j * 3 + 2, none⟩ = some (.int .i64 z2)) := ⟨a2, d2⟩
        clear a0 a1 a2 d0 d1 d2
        go_wp2
        clear c0 c1 c2 c3 q0 q1 q2 q3 hb3 hb6
        refine region_over (by kernel_rfl) (by kernel_rfl) ?_
        repeat (go_big_quiet_step (fail))
        refine wpQuiet_nil ?_
        rintro _ ⟨W, rfl⟩
        obtain ⟨W1, hW1⟩ : ∃ x, W.wd = x := ⟨_, rfl⟩
        have N1 : Hid (Cn w b3 b6 s p m (.slice (some ⟨bl, ol, none⟩) ln cpv) (.slice (some ⟨bq, oq, none⟩) (ln + 1) cpc) ls (qs ++ [(f, t, z)]) W1) := hW1 ▸ NJ.out.below W.ok
        have a2 : W1.cell? ⟨bl, ol + j * 3 + 2, none⟩ = some (.int .i64 z1) := hW1 ▸ ov_cell HA2.out.1 W
        have d2 : W1.cell? ⟨bq, oq + j * 3 + 2, none⟩ = some (.int .i64 z2) := hW1 ▸ ov_cell HA2.out.2 W
        rw [hW1]
        clear hW1 W y3 y6 ya0 ya1 yd0 yd1 ne NJ HA2 hxx hyy
        have y3 : ∀ W : Ov W1, W.wd.cell? ⟨b3, 3, none⟩ = some (.slice (some ⟨bl, ol, none⟩) ln cpv) := ov_cell (N1.out.box.cell 3)
        have y6 : ∀ W : Ov W1, W.wd.cell? ⟨b6, 3, none⟩ = some (.slice (some ⟨bq, oq, none⟩) (ln + 1) cpc) := ov_cell (N1.out.nxt.cell 3)
        have ya2 : ∀ W : Ov W1, W.wd.cell? ⟨bl, ol + j * 3 + 2, none⟩ = some (.int .i64 z1) := ov_cell a2
        have yd2 : ∀ W : Ov W1, W.wd.cell? ⟨bq, oq + j * 3 + 2, none⟩ = some (.int .i64 z2) := ov_cell d2
        have ne : Nonempty (Ov W1) := ⟨⟨_, Below.refl _ _⟩⟩
        clear a2 d2
        obtain ⟨q, hq⟩ : ∃ q, (z2 != z1) = q := ⟨_, rfl⟩
        have HCQ : Hid (chg qs ls j = q) := by show chg qs ls j = q; rw [HCH.out]; exact hq
        clear HCH
        go_wp2
        refine region_over (by kernel_rfl) (by kernel_rfl) ?_
        repeat (go_big_quiet_step (fail))
        refine wpQuiet_nil ?_
        rintro _ ⟨W, rfl⟩
        have N2 : Hid (Cn w b3 b6 s p m (.slice (some ⟨bl, ol, none⟩) ln cpv) (.slice (some ⟨bq, oq, none⟩) (ln + 1) cpc) ls (qs ++ [(f, t, z)]) W.wd) := N1.out.below W.ok
        clear y3 y6 ya2 yd2 ne N1
        cases q with
        | true =>
          have HNX : Hid (cnt qs ls (j + 1) = mo + 1) := by show cnt qs ls (j + 1) = mo + 1; rw [cnt_succ, HMO.out, HCQ.out, if_pos rfl]
          clear hq
          go_wp2
          go_roundw
          case rel => exact ⟨j + 1, by omega, by go_num, by rw [HNX.out]; go_num, N2.out⟩
          case measure => simp [intOf]; omega
        | false =>
          have HNX : Hid (cnt qs ls (j + 1) = mo) := by show cnt qs ls (j + 1) = mo; rw [cnt_succ, HMO.out, HCQ.out]; simp
          clear hq
          go_wp2
          go_roundw
          case rel => exact ⟨j + 1, by omega, by go_num, by rw [HNX.out], N2.out⟩
          case measure => simp [intOf]; omega
      case neg =>
        obtain rfl : ln = j := by omega
        have hmk : mo = K := by
          have h1 := HMO.out
          have h2 := HQ.out.2.2.2.1
          rw [HLN.out] at h2
          omega
        subst hmk
        clear hlt hj hcl
        go_wp2_with (fail)
        refine (relI_c s p m f _ (qs ++ [(f, t, z)]) wr NJ.out.own' (HNP.out _ NJ.out.bel).1 (by have := HQ.out.1; simp; omega)).mono ?_
        rintro e v1 ⟨vb, lb, cb, rfl, hsb, ob, bb⟩
        obtain ⟨hcb, hlb, hob⟩ := rel_done HD.out hsb
        subst hcb
        obtain ⟨ab, cpb, hvb, -⟩ := own_form ob
        rw [hlb, HLN.out] at hvb
        subst hvb
        have N1 : Hid (Cn w b3 b6 s p m (.slice av ln cpv) (.slice ac (ln + 1) cpc) ls (qs ++ [(f, t, z)]) v1) := NJ.out.below bb
        obtain ⟨v2, hv2⟩ : ∃ x, v1.alloc (Obj.cells (F4 s p m (.slice ab ln cpb)) 26) = x := ⟨_, rfl⟩
        have bv : Below v1.heap.size v1 v2 := hv2 ▸ (Below.refl _ _).alloc (Nat.le_refl _) _
        have HBV : Hid (Below w.heap.size w v2) := belowCall N1.out.bel bv N1.out.bel.size
        have HRB : Hid (Rt v2 (.slice ab ln cpb) lb) := ob.rd.below bv
        have HFB : Hid (FOk s p m lb) := hob
        have HV2 : Hid (v1.alloc (Obj.cells (F4 s p m (.slice ab ln cpb)) 26) = v2) := hv2
        have hmm : (((mo : Nat) : Int) == ((mo : Nat) : Int)) = true := by simp
        have hll' : (((ln : Nat) : Int) == ((ln : Nat) : Int)) = true := by simp
        clear hsb ob bb hlb hob hv2 bv NJ c0 c1 c2 c3 q0 q1 q2 q3 hb3 hb6
        have c0 := N1.out.box.cell 0
        have c1 := N1.out.box.cell 1
        have c2 := N1.out.box.cell 2
        have c3 := N1.out.box.cell 3
        have q0 := N1.out.nxt.cell 0
        have q1 := N1.out.nxt.cell 1
        have q2 := N1.out.nxt.cell 2
        have q3 := N1.out.nxt.cell 3
        simp at c0 c1 c2 c3 q0 q1 q2 q3
        have hb3 : b3 < v1.heap.size := N1.out.box.lt
        have hb6 : b6 < v1.heap.size := N1.out.nxt.lt
        clear N1
        go_wp2_with (fail)
        rw [HV2.out]
        refine (okI_c s p m _ lb v2 HRB.out).mono ?_
        rintro e v3 ⟨r3, rfl, hr3, b3'⟩
        obtain rfl : r3 = true := hr3.2 HFB.out
        have HBF : Hid (Below w.heap.size w v3) := belowCall HBV.out b3' HBV.out.size
        clear hr3 b3' HBV HV2 HRB
        go_wp2
        go_ret
        exact ⟨rfl, HBF.out⟩
  case neg =>
    obtain ⟨sv, hsv⟩ : ∃ sv, strV p m = sv := ⟨_, rfl⟩
    have hs2 : (sv == 2) = false := by
      rw [← hsv, strV, if_neg (by omega), if_neg h2]
      split <;> rfl
    rw [hsv]
    clear hsv h2
    go_wp2_with (fail)
    refine (okI_c s p m _ (qs ++ [(f, t, z)]) w10 N10.out.own').mono ?_
    rintro e w11 ⟨r1, rfl, hr1, b11⟩
    obtain rfl : r1 = true := hr1.2 HQ.out.2.1
    have N11 : Hid (Cn w b3 b6 s p m (.slice av ln cpv) (.slice ac (ln + 1) cpc) ls (qs ++ [(f, t, z)]) w11) := N10.out.below b11
    clear N10 b11 hr1 c0 c1 c2 c3 q0 q1 q2 q3 hb3 hb6
    have c0 := N11.out.box.cell 0
    have c1 := N11.out.box.cell 1
    have c2 := N11.out.box.cell 2
    have c3 := N11.out.box.cell 3
    have q0 := N11.out.nxt.cell 0
    have q1 := N11.out.nxt.cell 1
    have q2 := N11.out.nxt.cell 2
    have q3 := N11.out.nxt.cell 3
    simp at c0 c1 c2 c3 q0 q1 q2 q3
    have hb3 : b3 < w11.heap.size := N11.out.box.lt
    have hb6 : b6 < w11.heap.size := N11.out.nxt.lt
    go_wp2_with (fail)
    refine (ok_c s p m _ (qs ++ [(f, t, z)]) w11 N11.out.own').mono ?_
    rintro e w12 ⟨r2, rfl, hr2, b12⟩
    obtain rfl : r2 = true := hr2.2 HQ.out.2.1
    have N12 : Hid (Cn w b3 b6 s p m (.slice av ln cpv) (.slice ac (ln + 1) cpc) ls (qs ++ [(f, t, z)]) w12) := N11.out.below b12
    clear N11 b12 hr2 c0 c1 c2 c3 q0 q1 q2 q3 hb3 hb6
    have c0 := N12.out.box.cell 0
    have c1 := N12.out.box.cell 1
    have c2 := N12.out.box.cell 2
    have c3 := N12.out.box.cell 3
    have q0 := N12.out.nxt.cell 0
    have q1 := N12.out.nxt.cell 1
    have q2 := N12.out.nxt.cell 2
    have q3 := N12.out.nxt.cell 3
    simp at c0 c1 c2 c3 q0 q1 q2 q3
    have hb3 : b3 < w12.heap.size := N12.out.box.lt
    have hb6 : b6 < w12.heap.size := N12.out.nxt.lt
    have hnq : (((ln + 1 : Nat) : Int) != ((ln : Nat) : Int) + 1) = false := by simp
    go_wp2
    clear c0 c1 c2 c3 q0 q1 q2 q3 hb3 hb6 hnq
    go_loopw [12, 13] (fun mo i wr => ∃ j : Nat, j ≤ ln ∧ i = .int .i64 j ∧ mo = .int .i64 ((cnt qs ls j : Nat) : Int) ∧ Hid (Cn w b3 b6 s p m (.slice av ln cpv) (.slice ac (ln + 1) cpc) ls (qs ++ [(f, t, z)]) wr)) (fun _ i _ => ln - (intOf i).toNat)
    case atStart => exact ⟨0, Nat.zero_le _, rfl, rfl, N12.out⟩
    case round =>
      obtain ⟨j, hj, rfl, rfl, NJ⟩ := hrel
      clear N12
      have hcl : cnt qs ls j ≤ j := by
        unfold cnt
        exact Nat.le_trans List.countP_le_length (by simp)
      obtain ⟨mo, hmo⟩ : ∃ mo, cnt qs ls j = mo := ⟨_, rfl⟩
      rw [hmo]
      have HMO : Hid (cnt qs ls j = mo) := hmo
      rw [hmo] at hcl
      clear hmo
      have c0 := NJ.out.box.cell 0
      have c1 := NJ.out.box.cell 1
      have c2 := NJ.out.box.cell 2
      have c3 := NJ.out.box.cell 3
      have q0 := NJ.out.nxt.cell 0
      have q1 := NJ.out.nxt.cell 1
      have q2 := NJ.out.nxt.cell 2
      have q3 := NJ.out.nxt.cell 3
      simp at c0 c1 c2 c3 q0 q1 q2 q3
      have hb3 : b3 < wr.heap.size := NJ.out.box.lt
      have hb6 : b6 < wr.heap.size := NJ.out.nxt.lt
      by_cases hlt : j < ln
      case pos =>
        have hjl : j < ls.length := by rw [HLN.out]; exact hlt
        have hjq : j < qs.length := by rw [HQ.out.1]; exact hlt
        obtain ⟨e1, e2⟩ := HQ.out.2.2.1 j hjl hjq
        obtain ⟨x, ex⟩ : ∃ x, ls[j].1 = x := ⟨_, rfl⟩
        obtain ⟨y, ey⟩ : ∃ y, ls[j].2.1 = y := ⟨_, rfl⟩
        obtain ⟨z1, ez1⟩ : ∃ y, ls[j].2.2 = y := ⟨_, rfl⟩
        obtain ⟨z2, ez2⟩ : ∃ y, qs[j].2.2 = y := ⟨_, rfl⟩
        rw [ex] at e1
        rw [ey] at e2
        have HCH : Hid (chg qs ls j = (z2 != z1)) := by
          show chg qs ls j = _
          rw [chg, List.getD_eq_getElem?_getD, List.getD_eq_getElem?_getD, List.getElem?_eq_getElem hjq, List.getElem?_eq_getElem hjl, Option.getD_some, Option.getD_some, ez1, ez2]
        obtain ⟨k1, k2, k3, k4, k5, k6⟩ := NJ.out.own
        injection k3 with i1 i2 i3
        subst i1 i3
        clear i2
        obtain ⟨bl, ol, rfl, k7⟩ : ∃ b off, av = some ⟨b, off, none⟩ ∧ ∀ i (h : i < ls.length), wr.cell? ⟨b, off + i * 3, none⟩ = some (.int .i64 ls[i].1) ∧ wr.cell? ⟨b, off + i * 3 + 1, none⟩ = some (.int .i64 ls[i].2.1) ∧ wr.cell? ⟨b, off + i * 3 + 2, none⟩ = some (.int .i64 ls[i].2.2) := by
          rcases k6 with h | h
          · rw [h] at hjl; simp at hjl
          · exact h
        obtain ⟨l1, l2, l3, l4, l5, l6⟩ := NJ.out.own'
        injection l3 with i1 i2 i3
        subst i1 i3
        clear i2
        obtain ⟨bq, oq, rfl, l7⟩ : ∃ b off, ac = some ⟨b, off, none⟩ ∧ ∀ i (h : i < (qs ++ [(f, t, z)]).length), wr.cell? ⟨b, off + i * 3, none⟩ = some (.int .i64 (qs ++ [(f, t, z)])[i].1) ∧ wr.cell? ⟨b, off + i * 3 + 1, none⟩ = some (.int .i64 (qs ++ [(f, t, z)])[i].2.1) ∧ wr.cell? ⟨b, off + i * 3 + 2, none⟩ = some (.int .i64 (qs ++ [(f, t, z)])[i].2.2) := by
          rcases l6 with h | h
          · simp at h
          · exact h
        have a := k7 j hjl
        rw [ex, ey, ez1] at a
        obtain ⟨a0, a1, a2⟩ := a
        have b := l7 j (by simp; omega)
        rw [List.getElem_append_left hjq, e1, e2, ez2] at b
        obtain ⟨d0, d1, d2⟩ := b
        have y3 : ∀ W : Ov wr, W.wd.cell? ⟨b3, 3, none⟩ = some (.slice (some ⟨bl, ol, none⟩) ln cpv) := ov_cell (NJ.out.box.cell 3)
        have y6 : ∀ W : Ov wr, W.wd.cell? ⟨b6, 3, none⟩ = some (.slice (some ⟨bq, oq, none⟩) (ln + 1) cpc) := ov_cell (NJ.out.nxt.cell 3)
        have ya0 : ∀ W : Ov wr, W.wd.cell? ⟨bl, ol + j * 3, none⟩ = some (.int .i64 x) := ov_cell a0
        have ya1 : ∀ W : Ov wr, W.wd.cell? ⟨bl, ol + j * 3 + 1, none⟩ = some (.int .i64 y) := ov_cell a1
        have yd0 : ∀ W : Ov wr, W.wd.cell? ⟨bq, oq + j * 3, none⟩ = some (.int .i64 x) := ov_cell d0
        have yd1 : ∀ W : Ov wr, W.wd.cell? ⟨bq, oq + j * 3 + 1, none⟩ = some (.int .i64 y) := ov_cell d1
        have ne : Nonempty (Ov wr) := ⟨⟨_, Below.refl _ _⟩⟩
        have hxx : (x != x) = false := by simp
        have hyy : (y != y) = false := by simp
        have hj1 : (j : Int) < (ln : Int) := by omega
        have hj2 : j < ln + 1 := by omega
        clear k6 k7 l6 l7 e1 e2 ex ey ez1 ez2
        have HA2 : Hid (wr.cell? ⟨bl, ol + j * 3 + 2, none⟩ = some (.int .i64 z1) ∧ wr.cell? ⟨bq, oq + j * 3 + 2, none⟩ = some (.int .i64 z2)) := ⟨a2, d2⟩
        clear a0 a1 a2 d0 d1 d2
        go_wp2
        clear c0 c1 c2 c3 q0 q1 q2 q3 hb3 hb6
        refine region_over (by kernel_rfl) (by kernel_rfl) ?_
        repeat (go_big_quiet_step (fail))
        refine wpQuiet_nil ?_
        rintro _ ⟨W, rfl⟩
        obtain ⟨W1, hW1⟩ : ∃ x, W.wd = x := ⟨_, rfl⟩
        have N1 : Hid (Cn w b3 b6 s p m (.slice (some ⟨bl, ol, none⟩) ln cpv) (.slice (some ⟨bq, oq, none⟩) (ln + 1) cpc) ls (qs ++ [(f, t, z)]) W1) := hW1 ▸ NJ.out.below W.ok
        have a2 : W1.cell? ⟨bl, ol + j * 3 + 2, none⟩ = some (.int .i64 z1) := hW1 ▸ ov_cell HA2.out.1 W
        have d2 : W1.cell? ⟨bq, oq + j * 3 + 2, none⟩ = some (.int .i64 z2) := hW1 ▸ ov_cell HA2.out.2 W
        rw [hW1]
        clear hW1 W y3 y6 ya0 ya1 yd0 yd1 ne NJ HA2 hxx hyy
        have y3 : ∀ W : Ov W1, W.wd.cell? ⟨b3, 3, none⟩ = some (.slice (some ⟨bl, ol, none⟩) ln cpv) := ov_cell (N1.out.box.cell 3)
        have y6 : ∀ W : Ov W1, W.wd.cell? ⟨b6, 3, none⟩ = some (.slice (some ⟨bq, oq, none⟩) (ln + 1) cpc) := ov_cell (N1.out.nxt.cell 3)
        have ya2 : ∀ W : Ov W1, W.wd.cell? ⟨bl, ol + j * 3 + 2, none⟩ = some (.int .i64 z1) := ov_cell a2
        have yd2 : ∀ W : Ov W1, W.wd.cell? ⟨bq, oq + j * 3 + 2, none⟩ = some (.int .i64 z2) := ov_cell d2
        have ne : Nonempty (Ov W1) := ⟨⟨_, Below.refl _ _⟩⟩
        clear a2 d2
        obtain ⟨q, hq⟩ : ∃ q, (z2 != z1) = q := ⟨_, rfl⟩
        have HCQ : Hid (chg qs ls j = q) := by show chg qs ls j = q; rw [HCH.out]; exact hq
        clear HCH
        go_wp2
        refine region_over (by kernel_rfl) (by kernel_rfl) ?_
        repeat (go_big_quiet_step (fail))
        refine wpQuiet_nil ?_
        rintro _ ⟨W, rfl⟩
        have N2 : Hid (Cn w b3 b6 s p m (.slice (some ⟨bl, ol, none⟩) ln cpv) (.slice (some ⟨bq, oq, none⟩) (ln + 1) cpc) ls (qs ++ [(f, t, z)]) W.wd) := N1.out.below W.ok
        clear y3 y6 ya2 yd2 ne N1
        cases q with
        | true =>
          have HNX : Hid (cnt qs ls (j + 1) = mo + 1) := by show cnt qs ls (j + 1) = mo + 1; rw [cnt_succ, HMO.out, HCQ.out, if_pos rfl]
          clear hq
          go_wp2
          go_roundw
          case rel => exact ⟨j + 1, by omega, by go_num, by rw [HNX.out]; go_num, N2.out⟩
          case measure => simp [intOf]; omega
        | false =>
          have HNX : Hid (cnt qs ls (j + 1) = mo) := by show cnt qs ls (j + 1) = mo; rw [cnt_succ, HMO.out, HCQ.out]; simp
          clear hq
          go_wp2
          go_roundw
          case rel => exact ⟨j + 1, by omega, by go_num, by rw [HNX.out], N2.out⟩
          case measure => simp [intOf]; omega
      case neg =>
        obtain rfl : ln = j := by omega
        have hmk : mo = K := by
          have h1 := HMO.out
          have h2 := HQ.out.2.2.2.1
          rw [HLN.out] at h2
          omega
        subst hmk
        clear hlt hj hcl
        go_wp2_with (fail)
        refine (relI_c s p m f _ (qs ++ [(f, t, z)]) wr NJ.out.own' (HNP.out _ NJ.out.bel).1 (by have := HQ.out.1; simp; omega)).mono ?_
        rintro e v1 ⟨vb, lb, cb, rfl, hsb, ob, bb⟩
        obtain ⟨hcb, hlb, hob⟩ := rel_done HD.out hsb
        subst hcb
        obtain ⟨ab, cpb, hvb, -⟩ := own_form ob
        rw [hlb, HLN.out] at hvb
        subst hvb
        have N1 : Hid (Cn w b3 b6 s p m (.slice av ln cpv) (.slice ac (ln + 1) cpc) ls (qs ++ [(f, t, z)]) v1) := NJ.out.below bb
        obtain ⟨v2, hv2⟩ : ∃ x, v1.alloc (Obj.cells (F4 s p m (.slice ab ln cpb)) 26) = x := ⟨_, rfl⟩
        have bv : Below v1.heap.size v1 v2 := hv2 ▸ (Below.refl _ _).alloc (Nat.le_refl _) _
        have HBV : Hid (Below w.heap.size w v2) := belowCall N1.out.bel bv N1.out.bel.size
        have HRB : Hid (Rt v2 (.slice ab ln cpb) lb) := ob.rd.below bv
        have HFB : Hid (FOk s p m lb) := hob
        have HV2 : Hid (v1.alloc (Obj.cells (F4 s p m (.slice ab ln cpb)) 26) = v2) := hv2
        have hmm : (((mo : Nat) : Int) == ((mo : Nat) : Int)) = true := by simp
        have hll' : (((ln : Nat) : Int) == ((ln : Nat) : Int)) = true := by simp
        clear hsb ob bb hlb hob hv2 bv NJ c0 c1 c2 c3 q0 q1 q2 q3 hb3 hb6
        have c0 := N1.out.box.cell 0
        have c1 := N1.out.box.cell 1
        have c2 := N1.out.box.cell 2
        have c3 := N1.out.box.cell 3
        have q0 := N1.out.nxt.cell 0
        have q1 := N1.out.nxt.cell 1
        have q2 := N1.out.nxt.cell 2
        have q3 := N1.out.nxt.cell 3
        simp at c0 c1 c2 c3 q0 q1 q2 q3
        have hb3 : b3 < v1.heap.size := N1.out.box.lt
        have hb6 : b6 < v1.heap.size := N1.out.nxt.lt
        clear N1
        go_wp2_with (fail)
        rw [HV2.out]
        refine (okI_c s p m _ lb v2 HRB.out).mono ?_
        rintro e v3 ⟨r3, rfl, hr3, b3'⟩
        obtain rfl : r3 = true := hr3.2 HFB.out
        have HBF : Hid (Below w.heap.size w v3) := belowCall HBV.out b3' HBV.out.size
        clear hr3 b3' HBV HV2 HRB
        go_wp2
        go_ret
        exact ⟨rfl, HBF.out⟩
end Go.Proofs.YtikhfeafbckjlaaDoor
