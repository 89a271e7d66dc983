/- Burst, as the specification has it; no condition. -/
import Derived.Test.YtomgdlnpajfjhaaBrs
import Derived.Test.YtomgdlnpajfjhaaMixT
namespace Go.Proofs.Ytomgdlnpajfjhaa
open Go.RowKit Go.ChangeShapes Go.WideShapes Go.ChangeAt
set_option linter.unusedVariables false
set_option linter.unusedSimpArgs false
set_option maxRecDepth 8000

theorem appSmL {ops : Array Oper} {rest : List Oper} {o : Oper} {a : Act} {w : World} {Q : Exit → Act → World → Prop} (hgd : o.guard = none) (s x : Operand)
    (ho : o.op = .call { callee := .builtin .append, args := #[s, x], argTypes := #[28, 28] }) (base : Nat) (v : Value) (l0 T : List (Nat × Nat)) (hs : a.eval s = v) (hown : Og 2 smC 27 base w v l0)
    (tb cT : Nat) (hx : a.eval x = .slice (some ⟨tb, 0, none⟩) T.length cT) (hsrc : ∀ j u, (T.flatMap smC)[j]? = some u → w.cell? ⟨tb, j, none⟩ = some u) (hl : l0.length + T.length ≤ 1000000) (hbase : base ≤ w.heap.size)
    (h : ∀ v' w', Og 2 smC 27 base w' v' (l0 ++ T) → w.grownBy w' v.ownBlock → wpList Try.prog ops Q rest (a.put o.dst v') w') : wpList Try.prog ops Q (o :: rest) a w := by
  obtain ⟨i0, hi, hz0, hz1, hz2⟩ := info_parts infoSm
  refine wpList_append_own w hgd s x 28 ho base 27 i0 (.agg #[.float .f32 0, .float .f32 0]) 2 8 Try.underlying28 hi hz0 hz1 hz2 rfl (by decide) v l0.length (l0.flatMap smC) hs hown ⟨tb, 0, none⟩ T.length cT (T.flatMap smC) hx (by rw [fm_len smC_len]) ?_ smC_one ?_ ?_ hbase ?_
  · intro j u hu
    rw [Addr.add_lit, Nat.zero_add]; exact hsrc j u hu
  · unfold maxLen; omega
  · omega
  · intro v' w' g1 g2 g3
    refine h v' w' ?_ g2
    rw [Og, List.flatMap_append, List.length_append]; exact g1
/-- what is told behind i rounds -/
def mdl (ss T : List (Nat × Nat)) (h i : Nat) : List (Nat × Nat) := if i ≤ h then ss.take i else ss.take h ++ (T ++ (ss.drop h).take (i - h))
theorem mdl_at {ss T : List (Nat × Nat)} {h : Nat} : mdl ss T h h = ss.take h := by unfold mdl; rw [if_pos (Nat.le_refl _)]
theorem mdl_lo {ss T : List (Nat × Nat)} {h i : Nat} (hi : i < h) (hs : i < ss.length) : mdl ss T h (i + 1) = mdl ss T h i ++ [ss[i]] := by
  unfold mdl; rw [if_pos (by omega), if_pos (by omega), List.take_append_getElem]
theorem mdl_mid {ss T : List (Nat × Nat)} {h : Nat} (hs : h < ss.length) : mdl ss T h (h + 1) = (mdl ss T h h ++ T) ++ [ss[h]] := by
  rw [mdl_at]
  unfold mdl
  rw [if_neg (by omega), show h + 1 - h = 1 by omega, List.append_assoc]
  congr 2
  rw [List.drop_eq_getElem_cons hs]; rfl
theorem mdl_hi {ss T : List (Nat × Nat)} {h i : Nat} (hi : h < i) (hs : i < ss.length) : mdl ss T h (i + 1) = mdl ss T h i ++ [ss[i]] := by
  unfold mdl
  rw [if_neg (by omega), if_neg (by omega), List.append_assoc, List.append_assoc]
  congr 2
  have hl : i - h < (ss.drop h).length := by simp; omega
  rw [show i + 1 - h = (i - h) + 1 by omega, ← List.take_append_getElem hl]
  congr 2
  rw [List.getElem_drop]
  congr 1
  omega
theorem mdl_end {ss T : List (Nat × Nat)} {h : Nat} (hh : h < ss.length) : mdl ss T h (ss.length + 1) = mdl ss T h ss.length ∧ mdl ss T h ss.length = ss.take h ++ (T ++ ss.drop h) := by
  unfold mdl
  rw [if_neg (by omega), if_neg (by omega)]
  have e1 : (ss.drop h).take (ss.length - h) = ss.drop h := List.take_of_length_le (by simp)
  have e2 : (ss.drop h).take (ss.length + 1 - h) = ss.drop h := List.take_of_length_le (by simp; omega)
  rw [e1, e2]
  exact ⟨rfl, rfl⟩
theorem mdl_len (ss T : List (Nat × Nat)) (h i : Nat) : (mdl ss T h i).length ≤ 2 * ss.length + T.length := by
  unfold mdl
  split
  · simp; omega
  · simp; omega
set_option maxHeartbeats 25600000 in
theorem burstM_c (v : Value) (zs : List Int) (w : World) (h : Rd .i64 w v zs) : Calls Try.prog 14 #[v] w (BrR zs w) := by
  have HR : Hid (Rd .i64 w v zs) := h
  obtain ⟨a, cap, rfl, h1, h2, h3⟩ := h
  unfold maxLen at h2
  obtain ⟨B0, hB0⟩ : ∃ P, w.heap.size = P := ⟨_, rfl⟩
  have HP : Hid (w.heap.size = B0) := hB0
  obtain ⟨W0, hW0⟩ : ∃ W, w.alloc (Obj.cells #[] 27) = W := ⟨_, rfl⟩
  have HW0 : Hid (w.alloc (Obj.cells #[] 27) = W0) := hW0
  have HB0 : Hid (Below w.heap.size w W0) := by rw [← hW0]; exact (Below.refl _ _).alloc (Nat.le_refl _) _
  have HO0 : Hid (Og 2 smC 27 B0 W0 (.slice (some ⟨B0, 0, none⟩) 0 0) []) := by rw [← hW0, ← hB0]; exact World.ownsRow_lit w #[] 0 (Nat.le_refl _) (by simp) (by simp)
  clear hW0 hB0
  have HE : Hid (brB zs = (decide (2 ≤ (zs.length : Int)) && decide ((zs.length : Int) ≤ 320) && decide (zs.length % 2 = 0) && bsB zs)) := rfl
  have HNO : Hid (brB zs = false → ∀ W, Below W0.heap.size W0 W → BrR zs w (.returned (.tuple #[.slice (some ⟨B0, 0, none⟩) 0 0, .bool false])) W) := fun e W hW => ⟨_, by rw [e], by rw [brL_no e, HP.out]; exact HO0.out.below hW, belowCall HB0.out hW HB0.out.size⟩
  obtain ⟨n, hn⟩ : ∃ n : Nat, zs.length / 2 = n := ⟨_, rfl⟩
  have hdv : ((zs.length : Int)).tdiv 2 = (n : Int) := by rw [Int.tdiv_eq_ediv_of_nonneg (by omega)]; omega
  have hdv' : (zs.length : Int) / 2 = (n : Int) := by omega
  have hm : ((zs.length : Int)).tmod 2 = ((zs.length % 2 : Nat) : Int) := by rw [Int.tmod_eq_emod_of_nonneg (by omega)]; omega
  go_enter Try.func14, Try.ntmps14
  go_wp2_with (fail)
  rw [HW0.out, HP.out]
  refine (l1Bits_c _ zs _ (HR.out.below HB0.out)).mono ?_
  rintro e w1 ⟨rfl, b1⟩
  have HB1 : Hid (Below W0.heap.size W0 w1) := b1
  obtain ⟨q1, hq1⟩ : ∃ q, (bsB zs && decide ((zs.length : Int) ≤ 320)) = q := ⟨_, rfl⟩
  rw [hq1]
  clear b1
  cases q1 with
  | false =>
    have HF : Hid (brB zs = false) := by
      show _ = _
      rw [HE.out]
      cases hb : bsB zs
      · simp
      · rw [hb, Bool.true_and] at hq1; rw [hq1]; simp
    clear hq1 h3
    go_wp2
    go_ret2
    exact HNO.out HF.out _ HB1.out
  | true =>
  rw [Bool.and_eq_true, decide_eq_true_eq] at hq1
  have HQ1 : Hid (bsB zs = true ∧ (zs.length : Int) ≤ 320) := hq1
  have l1 : zs.length ≤ 320 := by have := hq1.2; omega
  clear hq1
  by_cases hev : zs.length % 2 = 0
  case neg =>
    have HF : Hid (brB zs = false) := by show _ = _; rw [HE.out, decide_eq_false hev]; simp
    have hmi : (zs.length : Int) % 2 = 1 := by omega
    have hnz : (((zs.length : Int) % 2) != 0) = true := by rw [hmi]; rfl
    clear hev h3 hmi hm
    go_wp2
    go_ret2
    exact HNO.out HF.out _ HB1.out
  case pos =>
  have hmi : (zs.length : Int) % 2 = 0 := by omega
  have hnz : (((zs.length : Int) % 2) != 0) = false := by rw [hmi]; rfl
  have HEV : Hid (zs.length % 2 = 0) := hev
  clear hev hmi hm
  by_cases hn1 : n < 1
  · have HF : Hid (brB zs = false) := by show _ = _; rw [HE.out, decide_eq_false (show ¬ 2 ≤ (zs.length : Int) by omega)]; simp
    have hn1i : (n : Int) < 1 := by omega
    clear h3 hn1
    go_wp2
    go_ret2
    exact HNO.out HF.out _ HB1.out
  have hn1i : ¬ (n : Int) < 1 := by omega
  have hn1d : decide ((n : Int) < 1) = false := decide_eq_false hn1i
  have HT : Hid (brB zs = true) := by
    show _ = _
    rw [HE.out, HQ1.out.1, decide_eq_true HEV.out, decide_eq_true HQ1.out.2, decide_eq_true (show 2 ≤ (zs.length : Int) by omega)]; rfl
  have hn2 : 2 * n = zs.length := by have := HEV.out; omega
  have HSL : Hid ((brS zs).length = n) := by show _ = _; rw [brS_len, hn]
  have HSA : Hid (∀ k (h : k < (brS zs).length), (brS zs)[k] = brP zs k) := brS_at zs
  have HBL : Hid (brL zs = (brS zs).take (n / 2) ++ (trL ++ (brS zs).drop (n / 2))) := by show _ = _; unfold brL; rw [HT.out, if_pos rfl, hn]
  obtain ⟨ss, hss⟩ : ∃ ss, brS zs = ss := ⟨_, rfl⟩
  rw [hss] at HSL HSA HBL
  obtain ⟨T, hT⟩ : ∃ T, trL = T := ⟨_, rfl⟩
  have HTL : Hid (T.length = 26) := by show T.length = 26; rw [← hT]; exact trL_len
  have HTR : Hid (∀ W, Calls Try.prog 43 #[] W fun e w' => ∃ v', e = .returned v' ∧ Og 2 smC 27 W.heap.size w' v' T ∧ Below W.heap.size W w') := by intro W; rw [← hT]; exact trainM_c W
  rw [hT] at HBL
  have HBT : Hid (∀ k, k < zs.length → 0 ≤ zs.getD k 0 ∧ zs.getD k 0 ≤ 1) := bsB_at HQ1.out.1
  obtain ⟨hh, hhh⟩ : ∃ hh : Nat, n / 2 = hh := ⟨_, rfl⟩
  have hq : ((n : Int)).tdiv 2 = (hh : Int) := by rw [Int.tdiv_eq_ediv_of_nonneg (by omega)]; omega
  have hq' : (n : Int) / 2 = (hh : Int) := by omega
  have hhn : hh < n := by omega
  rw [hhh] at HBL
  clear hss hn HE HNO HQ1 HEV hT hhh
  rcases h3 with h3 | ⟨b, off, rfl, h4⟩
  · subst h3; simp at hn2; omega
  have HC : Hid (∀ W k, k < zs.length → Below w.heap.size w W → W.cell? ⟨b, off + k, none⟩ = some (.int .i64 (zs.getD k 0))) := fun W k hk hW => by
    rw [hW.cell (block_lt_of_cell (h4 k hk))]; exact h4 k hk
  clear h4
  obtain ⟨L, hL⟩ : ∃ L, zs.length = L := ⟨_, rfl⟩
  have HLL : Hid (zs.length = L) := hL
  rw [hL] at hn2 hdv hdv' l1 h1 ⊢
  have HBw : Hid (Below w.heap.size w w1) := belowCall HB0.out HB1.out HB0.out.size
  have HO1 : Hid (Og 2 smC 27 B0 w1 (.slice (some ⟨B0, 0, none⟩) 0 0) (mdl ss T hh 0)) := by
    have : mdl ss T hh 0 = [] := by unfold mdl; rw [if_pos (by omega)]; rfl
    show Og 2 smC 27 B0 w1 _ _
    rw [this]; exact HO0.out.below HB1.out
  clear hL HB0 HB1 HO0 hdv hdv'
  go_wp2
  go_loopw [4, 6] (fun o i wr => ∃ (j : Nat) (o' : Value), j ≤ n + 1 ∧ i = .int .i64 j ∧ o' = o ∧ Hid (Og 2 smC 27 B0 wr o' (mdl ss T hh j)) ∧ Hid (Below w.heap.size w wr)) (fun _ i _ => n + 1 - (intOf i).toNat)
  case atStart => exact ⟨0, _, by omega, rfl, rfl, HO1.out, HBw.out⟩
  case round =>
    obtain ⟨j, o', hj, rfl, ho', hO, hB⟩ := hrel
    subst ho'
    clear HO1 HBw
    by_cases hlt : j ≤ n
    case neg =>
      obtain rfl : j = n + 1 := by omega
      have HOL : Hid (Og 2 smC 27 B0 wr o' (brL zs)) := by
        have e := mdl_end (ss := ss) (T := T) (h := hh) (by rw [HSL.out]; exact hhn)
        rw [HSL.out] at e
        show Og 2 smC 27 B0 wr o' (brL zs)
        rw [HBL.out, ← e.2, ← e.1]; exact hO.out
      have hgt : ¬ ((n + 1 : Nat) : Int) ≤ (n : Int) := by omega
      have hgd : decide (((n + 1 : Nat) : Int) ≤ (n : Int)) = false := decide_eq_false hgt
      clear hO hlt hj
      go_wp2
      go_ret2
      exact ⟨_, by rw [HT.out]; rfl, by rw [HP.out]; exact HOL.out, hB.out⟩
    case pos =>
    have hltI : (j : Int) ≤ (n : Int) := by omega
    have hj0 : (0 : Int) ≤ (j : Int) := by omega
    by_cases hjh : j = hh
    case pos =>
      have hjn : j < n := by omega
      have hje : ((j : Int) == (hh : Int)) = true := by simp [hjh]
      have HJH : Hid (j = hh) := hjh
      clear hjh
      go_wp2_with (fail)
      refine (HTR.out _).mono ?_
      rintro e w2 ⟨vt, rfl, ot, bt⟩
      obtain ⟨gt, cT, hvt, htc⟩ : ∃ gt cT, vt = .slice (some ⟨gt, 0, none⟩) 26 cT ∧ ∀ j v, (T.flatMap smC)[j]? = some v → w2.cell? ⟨gt, j, none⟩ = some v := by
        have hx : w2.ownsRow wr.heap.size 27 2 vt 26 (T.flatMap smC) := by have h := ot; rw [Og, HTL.out] at h; exact h
        rcases ot.2 with ⟨-, h0⟩ | ⟨gg, cap', cur, hv, -⟩
        · rw [HTL.out] at h0; cases h0
        · rw [HTL.out] at hv
          refine ⟨gg, cap', hv, fun k v hk => ?_⟩
          subst hv
          have hlt := (List.getElem?_eq_some_iff.1 hk).1
          have h1 := World.ownsRow.cellAt hx k (by rw [fm_len smC_len, HTL.out] at hlt; exact hlt)
          rw [hk] at h1; exact h1
      subst hvt
      have HTC : Hid (∀ j v, (T.flatMap smC)[j]? = some v → w2.cell? ⟨gt, j, none⟩ = some v) := htc
      have HO2 : Hid (Og 2 smC 27 B0 w2 o' (mdl ss T hh j)) := hO.out.below bt
      have HB2 : Hid (Below w.heap.size w w2) := belowCall hB.out bt hB.out.size
      have HSZ2 : Hid (B0 ≤ w2.heap.size) := by have := HB2.out.size; show B0 ≤ _; rw [HP.out] at this; exact this
      have HLN2 : Hid ((mdl ss T hh j).length + T.length ≤ 1000) := by
        show _ ≤ _
        have e1 := mdl_len ss T hh j
        have := HSL.out
        have := HTL.out
        omega
      clear ot bt htc hO hB
      go_wp2_with (at_builtin; refine appSmL rfl _ _ rfl B0 _ (mdl ss T hh j) T rfl HO2.out gt cT (by rw [HTL.out]; rfl) HTC.out (by have := HLN2.out; omega) HSZ2.out ?_)
      intro v3 w3 o3 g3
      have hO : Hid (Og 2 smC 27 B0 w3 v3 (mdl ss T hh j ++ T)) := o3
      have hB : Hid (Below w.heap.size w w3) := HB2.out.trans (grown_below g3 HB2.out.size (fun k e => by have := (HO2.out.lt k e).1; rw [HP.out]; exact this))
      clear o3 g3 HO2 HB2 HTC HSZ2 HLN2
      have hjs : j < ss.length := by rw [HSL.out]; exact hjn
      have hx0 := HC.out w3 (2 * j) (by have := HLL.out; omega) hB.out
      have hx1 := HC.out w3 (2 * j + 1) (by have := HLL.out; omega) hB.out
      have hbx := HBT.out (2 * j) (by have := HLL.out; omega)
      have hby := HBT.out (2 * j + 1) (by have := HLL.out; omega)
      obtain ⟨x, hx⟩ : ∃ x, zs.getD (2 * j) 0 = x := ⟨_, rfl⟩
      obtain ⟨y, hy⟩ : ∃ y, zs.getD (2 * j + 1) 0 = y := ⟨_, rfl⟩
      rw [hx] at hx0 hbx
      rw [hy] at hx1 hby
      have HSJ : Hid (ss[j] = (sgB x, sgB y)) := by show _ = _; rw [HSA.out j hjs]; unfold brP; rw [hx, hy]
      have HCS : Hid (∀ W', Below w.heap.size w W' → W'.cell? ⟨b, off + 2 * j, none⟩ = some (.int .i64 x) ∧ W'.cell? ⟨b, off + (2 * j + 1), none⟩ = some (.int .i64 y)) := fun W' hW' => by
        have e0 := HC.out W' (2 * j) (by have := HLL.out; omega) hW'
        have e1 := HC.out W' (2 * j + 1) (by have := HLL.out; omega) hW'
        rw [hx] at e0
        rw [hy] at e1
        exact ⟨e0, e1⟩
      obtain ⟨S, hS⟩ : ∃ S : World → Prop, ∀ W, S W ↔ (W.cell? ⟨b, off + 2 * j, none⟩ = some (.int .i64 x) ∧ W.cell? ⟨b, off + (2 * j + 1), none⟩ = some (.int .i64 y)) := ⟨_, fun _ => Iff.rfl⟩
      have y0 : ∀ W : At S, W.wd.cell? ⟨b, off + 2 * j, none⟩ = some (.int .i64 x) := fun W => ((hS _).1 W.ok).1
      have y1 : ∀ W : At S, W.wd.cell? ⟨b, off + (2 * j + 1), none⟩ = some (.int .i64 y) := fun W => ((hS _).1 W.ok).2
      have HSS : Hid (∀ W', Below w.heap.size w W' → S W') := fun W' hW' => (hS _).2 (HCS.out W' hW')
      have HSD : Hid (S w3.drew) := (hS _).2 ⟨hx0, hx1⟩
      have ne : Nonempty (At S) := ⟨⟨_, HSD.out⟩⟩
      have hjnI : (j : Int) < (n : Int) := by omega
      have ha0 : (0 : Int) ≤ 2 * (j : Int) := by omega
      have ha1 : 2 * (j : Int) < (L : Int) := by omega
      have ha2 : 2 * (j : Int) + 1 < (L : Int) := by omega
      have ha3 : (2 * (j : Int)).toNat = 2 * j := by omega
      have ha4 : (2 * (j : Int) + 1).toNat = 2 * j + 1 := by omega
      have HOD : Hid (Og 2 smC 27 B0 w3.drew v3 (mdl ss T hh j ++ T)) := hO.out.below (Below.refl _ _).drew
      have HBD : Hid (Below w.heap.size w w3.drew) := hB.out.drew
      clear hS hx hy hx0 hx1 hO hB
      go_wp2
      refine region_mixT [true, true, true, true, true, true, true, true, true, true, true, true, false, false, false, false] 16 4 S (by kernel_rfl) rfl (by kernel_rfl) (fun _ _ _ _ _ h => h) HSD.out ?_
      simp only [selT, selF]
      try simp only [Act.put]
      repeat (go_big_quiet_step (fail))
      refine wpQuiet_nil ?_
      refine tail_step ?_
      clear y0 y1 ne
      go_wp2_with (fail)
      refine (of15_c x y hbx.1 hbx.2 hby.1 hby.2 _).mono ?_
      rintro e w4 ⟨rfl, b4⟩
      have HO4 : Hid (Og 2 smC 27 B0 w4 v3 (mdl ss T hh j ++ T)) := HOD.out.below b4
      have HB4 : Hid (Below w.heap.size w w4) := belowCall HBD.out b4 HBD.out.size
      obtain ⟨p, hp⟩ : ∃ p, sgB x = p := ⟨_, rfl⟩
      obtain ⟨r, hr⟩ : ∃ r, sgB y = r := ⟨_, rfl⟩
      rw [hp, hr] at HSJ ⊢
      clear hp hr b4 HOD HBD
      obtain ⟨W5, hW5⟩ : ∃ V, w4.alloc (Obj.cells #[.float .f32 p, .float .f32 r] 27) = V := ⟨_, rfl⟩
      have HW5 : Hid (w4.alloc (Obj.cells #[.float .f32 p, .float .f32 r] 27) = W5) := hW5
      have ba : Below w4.heap.size w4 W5 := by rw [← hW5]; exact (Below.refl _ _).alloc (Nat.le_refl _) _
      have HO5 : Hid (Og 2 smC 27 B0 W5 v3 (mdl ss T hh j ++ T)) := HO4.out.below ba
      have HB5 : Hid (Below w.heap.size w W5) := belowCall HB4.out ba HB4.out.size
      have HK5 : Hid (Blk W5 w4.heap.size #[.float .f32 p, .float .f32 r] 27) := by rw [← hW5]; exact Blk.new _ _ _
      have HLN : Hid ((mdl ss T hh j ++ T).length ≤ 1000) := by
        show _ ≤ _
        have e1 := mdl_len ss T hh j
        have := HSL.out
        have := HTL.out
        first | omega | (rw [List.length_append]; omega)
      have HSZ : Hid (B0 ≤ W5.heap.size) := by have := HB5.out.size; show B0 ≤ _; rw [HP.out] at this; exact this
      have HS4 : Hid (S w4) := HSS.out _ HB4.out
      have HS5 : Hid (S W5) := HSS.out _ HB5.out
      clear ba hW5 HO4 HB4
      go_wp2
      refine ⟨HS4.out, tail_step ?_⟩
      go_wp2
      rw [HW5.out]
      refine ⟨HS5.out, tail_step ?_⟩
      go_wp2_with (at_builtin; refine appSm rfl _ _ rfl B0 _ (mdl ss T hh j ++ T) rfl HO5.out w4.heap.size p r rfl HK5.out (by have := HLN.out; omega) HSZ.out ?_)
      intro v6 w6 o6 g6
      have HO6 : Hid (Og 2 smC 27 B0 w6 v6 (mdl ss T hh (j + 1))) := by
        show Og 2 smC 27 B0 w6 v6 _
        rw [show mdl ss T hh (j + 1) = (mdl ss T hh j ++ T) ++ [ss[j]] by have e := HJH.out; subst e; exact mdl_mid hjs, HSJ.out]
        first | exact o6 | (rw [List.append_assoc]; exact o6)
      have HB6 : Hid (Below w.heap.size w w6) := HB5.out.trans (grown_below g6 HB5.out.size (fun k e => by have := (HO5.out.lt k e).1; rw [HP.out]; exact this))
      have HS6 : Hid (S w6) := HSS.out _ HB6.out
      clear o6 g6 HO5 HB5 HK5 HLN HSZ HS4 HS5
      go_wp2
      refine ⟨HS6.out, tail_step ?_⟩
      go_wp2
      refine ⟨HS6.out, tail_end ?_⟩
      go_wp2
      go_roundw
      case rel => exact ⟨j + 1, _, by omega, by go_num, rfl, HO6.out, HB6.out⟩
      case measure => simp [intOf]; omega
    case neg =>
    have hje : ((j : Int) == (hh : Int)) = false := by simp; omega
    by_cases hjn : j < n
    case pos =>
      have HJH : Hid (¬ j = hh) := hjh
      clear hjh
      have hjs : j < ss.length := by rw [HSL.out]; exact hjn
      have hx0 := HC.out wr (2 * j) (by have := HLL.out; omega) hB.out
      have hx1 := HC.out wr (2 * j + 1) (by have := HLL.out; omega) hB.out
      have hbx := HBT.out (2 * j) (by have := HLL.out; omega)
      have hby := HBT.out (2 * j + 1) (by have := HLL.out; omega)
      obtain ⟨x, hx⟩ : ∃ x, zs.getD (2 * j) 0 = x := ⟨_, rfl⟩
      obtain ⟨y, hy⟩ : ∃ y, zs.getD (2 * j + 1) 0 = y := ⟨_, rfl⟩
      rw [hx] at hx0 hbx
      rw [hy] at hx1 hby
      have HSJ : Hid (ss[j] = (sgB x, sgB y)) := by show _ = _; rw [HSA.out j hjs]; unfold brP; rw [hx, hy]
      have HCS : Hid (∀ W', Below w.heap.size w W' → W'.cell? ⟨b, off + 2 * j, none⟩ = some (.int .i64 x) ∧ W'.cell? ⟨b, off + (2 * j + 1), none⟩ = some (.int .i64 y)) := fun W' hW' => by
        have e0 := HC.out W' (2 * j) (by have := HLL.out; omega) hW'
        have e1 := HC.out W' (2 * j + 1) (by have := HLL.out; omega) hW'
        rw [hx] at e0
        rw [hy] at e1
        exact ⟨e0, e1⟩
      obtain ⟨S, hS⟩ : ∃ S : World → Prop, ∀ W, S W ↔ (W.cell? ⟨b, off + 2 * j, none⟩ = some (.int .i64 x) ∧ W.cell? ⟨b, off + (2 * j + 1), none⟩ = some (.int .i64 y)) := ⟨_, fun _ => Iff.rfl⟩
      have y0 : ∀ W : At S, W.wd.cell? ⟨b, off + 2 * j, none⟩ = some (.int .i64 x) := fun W => ((hS _).1 W.ok).1
      have y1 : ∀ W : At S, W.wd.cell? ⟨b, off + (2 * j + 1), none⟩ = some (.int .i64 y) := fun W => ((hS _).1 W.ok).2
      have HSS : Hid (∀ W', Below w.heap.size w W' → S W') := fun W' hW' => (hS _).2 (HCS.out W' hW')
      have HSD : Hid (S wr.drew) := (hS _).2 ⟨hx0, hx1⟩
      have ne : Nonempty (At S) := ⟨⟨_, HSD.out⟩⟩
      have hjnI : (j : Int) < (n : Int) := by omega
      have ha0 : (0 : Int) ≤ 2 * (j : Int) := by omega
      have ha1 : 2 * (j : Int) < (L : Int) := by omega
      have ha2 : 2 * (j : Int) + 1 < (L : Int) := by omega
      have ha3 : (2 * (j : Int)).toNat = 2 * j := by omega
      have ha4 : (2 * (j : Int) + 1).toNat = 2 * j + 1 := by omega
      have HOD : Hid (Og 2 smC 27 B0 wr.drew o' (mdl ss T hh j)) := hO.out.below (Below.refl _ _).drew
      have HBD : Hid (Below w.heap.size w wr.drew) := hB.out.drew
      clear hS hx hy hx0 hx1 hO hB
      go_wp2
      refine region_mixT [true, true, true, true, true, true, true, true, true, true, true, true, false, false, false, false] 16 4 S (by kernel_rfl) rfl (by kernel_rfl) (fun _ _ _ _ _ h => h) HSD.out ?_
      simp only [selT, selF]
      try simp only [Act.put]
      repeat (go_big_quiet_step (fail))
      refine wpQuiet_nil ?_
      refine tail_step ?_
      clear y0 y1 ne
      go_wp2_with (fail)
      refine (of15_c x y hbx.1 hbx.2 hby.1 hby.2 _).mono ?_
      rintro e w4 ⟨rfl, b4⟩
      have HO4 : Hid (Og 2 smC 27 B0 w4 o' (mdl ss T hh j)) := HOD.out.below b4
      have HB4 : Hid (Below w.heap.size w w4) := belowCall HBD.out b4 HBD.out.size
      obtain ⟨p, hp⟩ : ∃ p, sgB x = p := ⟨_, rfl⟩
      obtain ⟨r, hr⟩ : ∃ r, sgB y = r := ⟨_, rfl⟩
      rw [hp, hr] at HSJ ⊢
      clear hp hr b4 HOD HBD
      obtain ⟨W5, hW5⟩ : ∃ V, w4.alloc (Obj.cells #[.float .f32 p, .float .f32 r] 27) = V := ⟨_, rfl⟩
      have HW5 : Hid (w4.alloc (Obj.cells #[.float .f32 p, .float .f32 r] 27) = W5) := hW5
      have ba : Below w4.heap.size w4 W5 := by rw [← hW5]; exact (Below.refl _ _).alloc (Nat.le_refl _) _
      have HO5 : Hid (Og 2 smC 27 B0 W5 o' (mdl ss T hh j)) := HO4.out.below ba
      have HB5 : Hid (Below w.heap.size w W5) := belowCall HB4.out ba HB4.out.size
      have HK5 : Hid (Blk W5 w4.heap.size #[.float .f32 p, .float .f32 r] 27) := by rw [← hW5]; exact Blk.new _ _ _
      have HLN : Hid ((mdl ss T hh j).length ≤ 1000) := by
        show _ ≤ _
        have e1 := mdl_len ss T hh j
        have := HSL.out
        have := HTL.out
        first | omega | (rw [List.length_append]; omega)
      have HSZ : Hid (B0 ≤ W5.heap.size) := by have := HB5.out.size; show B0 ≤ _; rw [HP.out] at this; exact this
      have HS4 : Hid (S w4) := HSS.out _ HB4.out
      have HS5 : Hid (S W5) := HSS.out _ HB5.out
      clear ba hW5 HO4 HB4
      go_wp2
      refine ⟨HS4.out, tail_step ?_⟩
      go_wp2
      rw [HW5.out]
      refine ⟨HS5.out, tail_step ?_⟩
      go_wp2_with (at_builtin; refine appSm rfl _ _ rfl B0 _ (mdl ss T hh j) rfl HO5.out w4.heap.size p r rfl HK5.out (by have := HLN.out; omega) HSZ.out ?_)
      intro v6 w6 o6 g6
      have HO6 : Hid (Og 2 smC 27 B0 w6 v6 (mdl ss T hh (j + 1))) := by
        show Og 2 smC 27 B0 w6 v6 _
        rw [show mdl ss T hh (j + 1) = mdl ss T hh j ++ [ss[j]] by have e := HJH.out; rcases Nat.lt_or_gt_of_ne e with e | e; exact mdl_lo e hjs; exact mdl_hi e hjs, HSJ.out]
        first | exact o6 | (rw [List.append_assoc]; exact o6)
      have HB6 : Hid (Below w.heap.size w w6) := HB5.out.trans (grown_below g6 HB5.out.size (fun k e => by have := (HO5.out.lt k e).1; rw [HP.out]; exact this))
      have HS6 : Hid (S w6) := HSS.out _ HB6.out
      clear o6 g6 HO5 HB5 HK5 HLN HSZ HS4 HS5
      go_wp2
      refine ⟨HS6.out, tail_step ?_⟩
      go_wp2
      refine ⟨HS6.out, tail_end ?_⟩
      go_wp2
      go_roundw
      case rel => exact ⟨j + 1, _, by omega, by go_num, rfl, HO6.out, HB6.out⟩
      case measure => simp [intOf]; omega
    case neg =>
      obtain rfl : j = n := by omega
      have HO' : Hid (Og 2 smC 27 B0 wr o' (mdl ss T hh (j + 1))) := by
        have e := (mdl_end (ss := ss) (T := T) (h := hh) (by rw [HSL.out]; exact hhn)).1
        rw [HSL.out] at e
        show Og 2 smC 27 B0 wr o' _
        rw [e]; exact hO.out
      have hnn : ¬ (j : Int) < (j : Int) := by omega
      clear hO hjn hjh hlt
      go_wp2
      go_roundw
      case rel => exact ⟨j + 1, _, by omega, by go_num, rfl, HO'.out, hB.out⟩
      case measure => simp [intOf] <;> omega


end Go.Proofs.Ytomgdlnpajfjhaa
