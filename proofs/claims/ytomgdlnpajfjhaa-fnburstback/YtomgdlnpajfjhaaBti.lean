/- Bits15, as the program has it; no condition. -/
import Derived.Test.YtomgdlnpajfjhaaBta
import Derived.Test.YtomgdlnpajfjhaaGni
namespace Go.Proofs.Ytomgdlnpajfjhaa
open Go.RowKit Go.ChangeShapes Go.WideShapes Go.ChangeAt
set_option linter.unusedVariables false
set_option linter.unusedSimpArgs false
set_option maxRecDepth 8000

set_option maxHeartbeats 12800000 in
theorem bitsI_c (v : Value) (ls : List (Nat × Nat)) (w : World) (h : Rg 2 smC w v ls) : Calls Try.prog 9 #[v] w (BtR ls w) := by
  have hsf := storeF
  have hcv := fun s d a b w hs hd => run_conv_cwid (P := Try.prog) s d a b w hs hd
  have HR : Hid (Rg 2 smC w v ls) := h
  obtain ⟨a, cap, rfl, h1, h2, -⟩ := h
  unfold maxLen at h2
  go_enter Try.func9, Try.ntmps9
  go_wp2_with (fail)
  refine (gainI_c _ ls w HR.out).mono ?_
  rintro e w1 ⟨u, q, rfl, hu, hq, hul, b1⟩
  have HF : Hid (fc .f64 u = gnF pXR ls ∧ fc .f64 q = gnF pXI ls) := ⟨hu, hq⟩
  have HUL : Hid (u < 2 ^ 64 ∧ q < 2 ^ 64) := hul
  obtain ⟨W1, hW1⟩ : ∃ W, w1.alloc (Obj.cells #[.float .f64 u, .float .f64 q] 38) = W := ⟨_, rfl⟩
  have HW1 : Hid (w1.alloc (Obj.cells #[.float .f64 u, .float .f64 q] 38) = W1) := hW1
  have HB1 : Hid (Below w.heap.size w W1) := by rw [← hW1]; exact b1.alloc b1.size _
  have HK1 : Hid (Blk W1 w1.heap.size #[.float .f64 u, .float .f64 q] 38) := by rw [← hW1]; exact Blk.new _ _ _
  have HR1 : Hid (Rg 2 smC W1 (.slice a ls.length cap) ls) := HR.out.below HB1.out
  obtain ⟨X, hX⟩ : ∃ X, w1.heap.size = X := ⟨_, rfl⟩
  have HXX : Hid (w1.heap.size = X) := hX
  rw [hX] at HK1
  clear hu hq hul b1 hW1 hX
  have HG : Hid (btB ls = (gnB ls && (restS ls).all fun p => (bq (gnF pXR ls) (gnF pXI ls) p).isSome)) := rfl
  obtain ⟨gb, hgb⟩ : ∃ x, gnB ls = x := ⟨_, rfl⟩
  rw [hgb]
  have HGB : Hid (gnB ls = gb) := hgb
  clear hgb
  cases gb with
  | false =>
    have HBF : Hid (btB ls = false) := by show _ = _; rw [HG.out, HGB.out]; rfl
    go_wp2
    rw [HW1.out]
    go_ret2
    exact ⟨_, by rw [HBF.out]; rfl, by rw [bt_no HBF.out]; exact Ow.nil .i64 3 _ _, HB1.out⟩
  | true =>
  have hl := HGB.out
  unfold gnB at hl
  rw [Bool.and_eq_true, decide_eq_true_eq, decide_eq_true_eq] at hl
  have l0 : 27 ≤ ls.length := by have := hl.1; omega
  have l1 : ls.length ≤ 200 := by have := hl.2; omega
  obtain ⟨pl, hpl⟩ : ∃ pl : Nat, gnH ls = pl := ⟨_, rfl⟩
  have hdv : ((ls.length : Int) - 26).tdiv 2 = (pl : Int) := by rw [Int.tdiv_eq_ediv_of_nonneg (by omega), ← hpl]; unfold gnH; omega
  have hb : pl + 26 < ls.length := by rw [← hpl]; unfold gnH; omega
  obtain ⟨rs, hrs⟩ : ∃ rs, restS ls = rs := ⟨_, rfl⟩
  have HRS : Hid (restS ls = rs) := hrs
  have HRL : Hid (rs.length = ls.length - 26) := by show _ = _; rw [← hrs]; exact restS_len l0
  have HRT : Hid (ls.take pl ++ ls.drop (pl + 26) = rs) := by show _ = _; rw [← hrs]; unfold restS; rw [hpl]
  clear hl hpl hrs
  go_wp2_with (fail)
  rw [HW1.out]
  refine (place_c ls.length pl (by omega) (by omega) hdv _).mono ?_
  rintro e w2 ⟨rfl, hw⟩
  rw [hw]
  clear hw w2 hdv
  go_wp2_with (fail)
  refine (singles_c _ ls W1 HR1.out (by omega)).mono ?_
  rintro e w2 ⟨rfl, o2, b2⟩
  have HK2 : Hid (Blk w2 X #[.float .f64 u, .float .f64 q] 38) := HK1.out.below b2 HK1.out.lt
  have HB2 : Hid (Below w.heap.size w w2) := belowCall HB1.out b2 HB1.out.size
  have HO2 : Hid (w2.ownsRow W1.heap.size 55 1 (.slice (some ⟨W1.heap.size, 0, none⟩) ls.length ls.length) ls.length (ls.flatMap cpC)) := o2
  have HLT : Hid (X < W1.heap.size ∧ w.heap.size ≤ W1.heap.size) := ⟨HK1.out.lt, HB1.out.size⟩
  clear o2 b2
  obtain ⟨g, hg⟩ : ∃ g, W1.heap.size = g := ⟨_, rfl⟩
  rw [hg] at HO2 HLT ⊢
  clear hg
  obtain ⟨m, hm⟩ : ∃ m : Nat, ls.length - 26 = m := ⟨_, rfl⟩
  have hm26 : m + 26 = ls.length := by omega
  rw [hm] at HRL
  obtain ⟨n, hn⟩ : ∃ n, ls.length = n := ⟨_, rfl⟩
  have HN : Hid (ls.length = n) := hn
  rw [hn] at HO2 hm26 hb l0 l1 h1 ⊢
  clear hm hn
  go_wp2_with (fail)
  refine (delete_c g g n pl m ls w2 HO2.out HN.out hm26 (by omega) (by omega)).mono ?_
  rintro e w3 ⟨rfl, o3, g3⟩
  rw [HRT.out] at o3
  have HO3 : Hid (w3.ownsRow g 55 1 (.slice (some ⟨g, 0, none⟩) m n) m (rs.flatMap cpC)) := o3
  have HK3 : Hid (Blk w3 X #[.float .f64 u, .float .f64 q] 38) := HK2.out.fr (Fr.ofGrown (X := fun k => k = g) g3 (fun k e => by cases e; rfl)) (by have := HLT.out.1; omega)
  have HB3 : Hid (Below w.heap.size w w3) := HB2.out.trans (grown_below g3 HB2.out.size (fun k e => by cases e; exact HLT.out.2))
  have HG3 : Hid (g < w3.heap.size) := (World.ownsRow.lt o3 g rfl).2
  clear o3 g3 HO2 HK2 HB2
  have HCE : Hid (∀ W j (hj : j < rs.length), Below w3.heap.size w3 W → W.cell? ⟨g, j, none⟩ = some (.complex .f32 rs[j].1 rs[j].2)) := fun W j hj hW => by
    rw [hW.cell HG3.out]
    have := (HO3.out.cellAt (j * 1 + 0) (by have := HRL.out; omega)).trans (fm_at cpC_len rs j 0 hj (by decide))
    rw [Nat.mul_one, Nat.add_zero] at this
    exact this
  have HNN : Hid (Ow .i64 3 w3.heap.size w3 (.slice none 0 0) (bqL (gnF pXR ls) (gnF pXI ls) (rs.take 0))) := Ow.nil .i64 3 _ _
  go_wp2
  go_loopw [7, 29] (fun o i wr => ∃ (j : Nat) (o' : Value), j ≤ m ∧ i = .int .i64 j ∧ o' = o ∧ Hid (Ow .i64 3 w3.heap.size wr o' (bqL (gnF pXR ls) (gnF pXI ls) (rs.take j))) ∧ Hid (∀ t (ht : t < rs.length), t < j → (bq (gnF pXR ls) (gnF pXI ls) rs[t]).isSome = true) ∧ Hid (Below w3.heap.size w3 wr)) (fun _ i _ => m - (intOf i).toNat)
  case atStart => exact ⟨0, _, by omega, rfl, rfl, HNN.out, fun t _ ht => by omega, Below.refl _ _⟩
  case round =>
    obtain ⟨j, o', hj, rfl, ho', hO, hA, hB⟩ := hrel
    subst ho'
    clear HNN
    by_cases hlt : j < m
    case neg =>
      obtain rfl : j = m := by omega
      have HBT : Hid (btB ls = true) := by
        show _ = _
        refine btB_all HGB.out ?_
        rw [HRS.out]
        exact fun k hk => hA.out k hk (by have := HRL.out; omega)
      have HOL : Hid (Ow .i64 3 w.heap.size wr o' (btL ls)) := by
        have h1 := hO.out
        rw [show rs.take j = rs from List.take_of_length_le (by have := HRL.out; omega)] at h1
        have e : btL ls = bqL (gnF pXR ls) (gnF pXI ls) rs := by unfold btL; rw [HBT.out, if_pos rfl, HRS.out]
        show Ow .i64 3 w.heap.size wr o' (btL ls)
        rw [e]
        exact h1.mono HB3.out.size
      have HBW : Hid (Below w.heap.size w wr) := belowCall HB3.out hB.out HB3.out.size
      clear hO hA hB hlt hj
      go_wp2
      go_ret2
      exact ⟨_, by rw [HBT.out]; rfl, HOL.out, HBW.out⟩
    case pos =>
    have hjr : j < rs.length := by have := HRL.out; omega
    have c0 := HCE.out wr j hjr hB.out
    obtain ⟨⟨p, r⟩, hpr⟩ : ∃ x, rs[j] = x := ⟨_, rfl⟩
    rw [hpr] at c0
    have HPR : Hid (rs[j] = (p, r)) := hpr
    have hk := HK3.out.below hB.out HK3.out.lt
    have k0 := hk.cell 0
    have k1 := hk.cell 1
    simp at k0 k1
    have HKW : Hid (Blk wr X #[.float .f64 u, .float .f64 q] 38) := hk
    rw [HXX.out]
    clear hpr hk
    go_wp2_with (fail)
    refine (inDouble_c _ _ _).mono ?_
    rintro e w4 ⟨rfl, b4⟩
    have HB4 : Hid (Below wr.heap.size wr w4) := (below_drewN (Below.refl _ _) _).trans b4
    have HO4 : Hid (Ow .i64 3 w3.heap.size w4 o' (bqL (gnF pXR ls) (gnF pXI ls) (rs.take j))) := hO.out.below HB4.out
    have HC4 : Hid (Below w3.heap.size w3 w4) := hB.out.trans (HB4.out.mono hB.out.size)
    clear b4
    go_wp2_with (fail)
    refine (quotOf_c _ _ u q (wv_lt _ _) (wv_lt _ _) HUL.out.1 HUL.out.2 _).mono ?_
    rintro e w5 ⟨x, y, nn, rfl, hx, hy, rfl⟩
    have hbq := bq_of (p := (p, r)) (fc_wv p wr) (fc_wv r (wr.drewN (wn p))) HF.out.1 HF.out.2
    obtain ⟨ok, hok⟩ : ∃ ok, qOk (wv p wr) (wv r (wr.drewN (wn p))) u q = ok := ⟨_, rfl⟩
    rw [hok] at hbq ⊢
    rw [← hx, ← hy] at hbq
    have HBQ : Hid (bq (gnF pXR ls) (gnF pXI ls) (p, r) = if ok = true then some (bitF (fc .f64 x), bitF (fc .f64 y)) else none) := hbq
    clear hbq hok hx hy
    cases ok with
    | false =>
      have HBF : Hid (btB ls = false) := by
        show _ = _
        refine btB_no j (by rw [HRS.out]; exact hjr) ?_
        have : ∀ (l : List (Nat × Nat)) (hl : l = rs) (h : j < l.length), l[j] = (p, r) := fun l hl h => by subst hl; exact HPR.out
        rw [this _ HRS.out, HBQ.out]; simp
      have HBW : Hid (Below w.heap.size w (w4.drewN nn)) := below_drewN (belowCall HB3.out HC4.out HB3.out.size) _
      go_wp2
      go_ret2
      exact ⟨_, by rw [HBF.out]; rfl, by rw [bt_no HBF.out]; exact Ow.nil .i64 3 _ _, HBW.out⟩
    | true =>
    go_wp2_with (fail)
    refine (bitI_c x _).mono ?_
    rintro e w5 ⟨rfl, hw⟩
    rw [hw]
    clear hw w5
    go_wp2_with (fail)
    refine (bitI_c y _).mono ?_
    rintro e w5 ⟨rfl, hw⟩
    rw [hw]
    clear hw w5
    obtain ⟨z1, hz1⟩ : ∃ z, bitF (fc .f64 x) = z := ⟨_, rfl⟩
    obtain ⟨z2, hz2⟩ : ∃ z, bitF (fc .f64 y) = z := ⟨_, rfl⟩
    rw [hz1, hz2] at HBQ ⊢
    clear hz1 hz2
    obtain ⟨W5, hW5⟩ : ∃ W, (w4.drewN nn).alloc (Obj.cells #[.int .i64 z1, .int .i64 z2] 3) = W := ⟨_, rfl⟩
    have HW5 : Hid ((w4.drewN nn).alloc (Obj.cells #[.int .i64 z1, .int .i64 z2] 3) = W5) := hW5
    have ba : Below w4.heap.size w4 W5 := by rw [← hW5]; exact (below_drewN (Below.refl _ _) _).alloc (by simp) _
    have HO5 : Hid (Ow .i64 3 w3.heap.size W5 o' (bqL (gnF pXR ls) (gnF pXI ls) (rs.take j))) := HO4.out.below ba
    have HC5 : Hid (Below w3.heap.size w3 W5) := HC4.out.trans (ba.mono HC4.out.size)
    have HK5 : Hid (Blk W5 w4.heap.size #[.int .i64 z1, .int .i64 z2] 3) := by rw [← hW5]; exact Blk.newAt _ _ _ _ (by simp)
    have HLL : Hid ((bqL (gnF pXR ls) (gnF pXI ls) (rs.take j)).length ≤ 1000) := by
      show _ ≤ _
      have := bqL_len (gnF pXR ls) (gnF pXI ls) (rs.take j)
      rw [List.length_take] at this; omega
    clear ba hW5 HO4 HC4
    go_wp2_with (at_builtin; rw [HW5.out]; refine appI2 rfl _ _ rfl w3.heap.size _ (bqL (gnF pXR ls) (gnF pXI ls) (rs.take j)) rfl HO5.out w4.heap.size z1 z2 rfl HK5.out (by have := HLL.out; omega) HC5.out.size ?_)
    intro v6 w6 o6 b6
    have HBS : Hid (bq (gnF pXR ls) (gnF pXI ls) (p, r) = some (z1, z2)) := by show _ = _; rw [HBQ.out]; simp
    have HO6 : Hid (Ow .i64 3 w3.heap.size w6 v6 (bqL (gnF pXR ls) (gnF pXI ls) (rs.take (j + 1)))) := by
      have e : rs.take (j + 1) = rs.take j ++ [(p, r)] := by rw [← HPR.out, List.take_append_getElem]
      show Ow .i64 3 w3.heap.size w6 v6 _
      rw [e, bqL_app _ _ _ _ _ _ HBS.out]; exact o6
    have HC6 : Hid (Below w3.heap.size w3 w6) := HC5.out.trans b6
    have HA6 : Hid (∀ t (ht : t < rs.length), t < j + 1 → (bq (gnF pXR ls) (gnF pXI ls) rs[t]).isSome = true) := fun t ht h => by
      by_cases e : t = j
      · subst e; rw [HPR.out, HBS.out]; rfl
      · exact hA.out t ht (by omega)
    clear o6 b6 HO5 HC5 HK5 HLL
    go_wp2
    go_roundw
    case rel => exact ⟨j + 1, _, by omega, by go_num, rfl, HO6.out, HA6.out, HC6.out⟩
    case measure => simp [intOf]; omega

end Go.Proofs.Ytomgdlnpajfjhaa
