/- DrawServing; no condition. -/
import Derived.Test.YtikgempdohpdjaaMsd
import Derived.Test.YtikgempdohpdjaaLdd
namespace Go.Proofs.Ytikgempdohpdjaa
open Go.RowKit Go.ChangeShapes Go.WideShapes Go.ChangeAt
set_option linter.unusedVariables false
set_option linter.unusedSimpArgs false
set_option maxRecDepth 8000

theorem results_tmp3 {fn : Func} {t u v : Tmp} (h : fn.results = #[.tmp t, .tmp u, .tmp v]) (tmps : Array Value) (P : Program) (w : World) :
    (results fn tmps).run P w = .ok (.tuple #[tmps.getD t undef, tmps.getD u undef, tmps.getD v undef]) w := by
  simp [results, h]
set_option maxHeartbeats 12800000 in
theorem drawServ_c (v : Value) (code : List Int) (w : World) (h : Rd .u8 w v code) (hok : ∀ z ∈ code, 0 ≤ z ∧ z ≤ 255) (hlen : code.length ≤ 2097152) :
   Calls Try.prog 13 #[v] w fun e w' => ∃ (u : Value) (mg dw : Int) (ls : List (List Int)), e = .returned (.tuple #[u, .int .i64 mg, .int .i64 dw]) ∧ Rn w' u ls ∧ Below w.heap.size w w' := by
  go_enter Try.func13, Try.ntmps13
  go_wp2_with (fail)
  refine (new_c v code w h hok hlen).mono ?_
  rintro e w1 ⟨g, rfl, d1, hg, b1⟩
  have HB : Hid (Below w.heap.size w w1 ∧ w.heap.size ≤ g) := ⟨b1, hg⟩
  have HD1 : Hid (Dr w1 g v code) := d1
  clear d1 hg b1 h hok
  go_wp2_with (fail)
  refine (drawMeas_c g v code _ HD1.out hlen).mono ?_
  rintro e w2 ⟨vg, us, ls, rfl, hG, hl40, hrow⟩
  have HG2 : Hid (Gd w1 w2 g v code vg us ls) := hG
  have HL1 : Hid (ls.length ≤ 40 ∧ ∀ i, i < ls.length → 1 ≤ (ls.getD i []).length ∧ (ls.getD i []).length ≤ 5) := ⟨hl40, hrow⟩
  clear hG hl40 hrow HD1 hlen
  go_wp2_with (fail)
  refine (below_c g v code 25 _ HG2.out.dc.dr (by omega)).mono ?_
  rintro e w3 ⟨r, rfl, r0, r1, -, d1, g1⟩
  have HG3 : Hid (Gd w1 w3 g v code vg us ls) := HG2.out.draw d1 g1
  clear d1 g1 r1 HG2
  obtain ⟨va, vc, hvg, -, -, hvb⟩ := own_form HG3.out.row
  subst hvg
  obtain ⟨N, hN⟩ : ∃ N, us.length = N := ⟨_, rfl⟩
  have HN : Hid (us.length = N) := hN
  rw [hN] at HG3 ⊢
  clear hN
  by_cases hr : r = 0
  case pos =>
    subst hr
    clear r0 hvb
    have HBL := HG3.out.blt
    have HSZ : Hid (w1.heap.size ≤ w3.heap.size) := HG3.out.size
    obtain ⟨WA, hWA⟩ : ∃ W, w3.alloc (Obj.cells #[.int .i64 0] 3) = W := ⟨_, rfl⟩
    have ba : Below w3.heap.size w3 WA := by rw [← hWA]; exact (Below.refl _ _).alloc (Nat.le_refl _) _
    have HGA : Hid (Gd w1 WA g v code (.slice va N vc) us ls) := HG3.out.below ba
    have HOA : Hid (Ow .i64 3 w3.heap.size WA (.slice (some ⟨w3.heap.size, 0, none⟩) 1 1) [0]) := by
      rw [← hWA]
      exact World.ownsRow_lit (e := 3) (size := 1) (base := w3.heap.size) w3 #[.int .i64 0] 1 (Nat.le_refl _) (by unfold maxLen; omega) (by simp)
    have HWA : Hid (w3.alloc (Obj.cells #[.int .i64 0] 3) = WA ∧ w3.heap.size + 1 = WA.heap.size) := ⟨hWA, by rw [← hWA]; simp⟩
    have HPU : Hid (∀ v' w', w'.ownsRow w1.heap.size 27 1 v' (us ++ [Value.slice (some ⟨w3.heap.size, 0, none⟩) 1 1]).length (us ++ [Value.slice (some ⟨w3.heap.size, 0, none⟩) 1 1]) → (WA.alloc (Obj.cells #[Value.slice (some ⟨w3.heap.size, 0, none⟩) 1 1] 27)).grownBy w' (Value.slice va N vc).ownBlock → (v'.ownBlock = (Value.slice va N vc).ownBlock ∨ v'.ownBlock = some (WA.alloc (Obj.cells #[Value.slice (some ⟨w3.heap.size, 0, none⟩) 1 1] 27)).heap.size) → Gd w1 w' g v code v' (us ++ [Value.slice (some ⟨w3.heap.size, 0, none⟩) 1 1]) (ls ++ [[0]])) := fun v' w' h1 h2 h3 => HGA.out.push HSZ.out HBL.1 HBL.2 HOA.out ((Below.refl _ _).alloc (Nat.le_refl _) _) h1 h2 h3
    have HRW : Hid ((WA.alloc (Obj.cells #[Value.slice (some ⟨w3.heap.size, 0, none⟩) 1 1] 27)).ownsRow w1.heap.size 27 1 (.slice va N vc) us.length us) := World.ownsRow.alloc HGA.out.row _
    have HUL : Hid (us.length ≤ 1000) := by show _ ≤ _; rw [HGA.out.len]; have := HL1.out.1; omega
    have HSA : Hid (w1.heap.size ≤ WA.heap.size) := HGA.out.size
    clear ba hWA HBL HG3 HGA HOA
    go_wp2_with (at_builtin; rw [HWA.out.1, HWA.out.2]; refine appRow rfl (.tmp 17) (.tmp 19) rfl w1.heap.size _ us rfl HRW.out WA.heap.size (some ⟨w3.heap.size, 0, none⟩) 1 1 rfl (by simp) (by have := HUL.out; omega) (by have := HSA.out; simp; omega) ?_)
    intro v6 w6 h1 h2 h3
    have HG6 := HPU.out v6 w6 (by simpa using h1) h2 (by simpa using h3)
    obtain ⟨sa, sc, hv6, -⟩ := own_form h1
    subst hv6
    have HG6 : Hid (Gq w1 w6 g v code _ _ _) := HG6.gq
    clear h1 h2 h3 HPU HRW HWA HSA HUL HSZ HL1
    obtain ⟨M6, hM6⟩ : ∃ M, us.length + 1 = M := ⟨_, rfl⟩
    have hM7 : (us ++ [Value.slice (some ⟨w3.heap.size, 0, none⟩) 1 1]).length = M6 := by rw [← hM6]; simp
    first | rw [hM7] at HG6 | rw [hM6] at HG6
    rw [hM6]
    clear hM6 hM7
    obtain ⟨WL1, hWL⟩ : ∃ W, w6.alloc (Obj.cells #[.int .i64 0, .int .i64 3, .int .i64 6, .int .i64 10, .int .i64 60, .int .i64 61, .int .i64 (-1), .int .i64 5] 3) = W := ⟨_, rfl⟩
    have ba : Below w6.heap.size w6 WL1 := by rw [← hWL]; exact (Below.refl _ _).alloc (Nat.le_refl _) _
    have HLR : Hid (Rd .i64 WL1 (.slice (some ⟨w6.heap.size, 0, none⟩) 8 8) [0, 3, 6, 10, 60, 61, -1, 5]) := by rw [← hWL]; exact Rd.lit w6 [0, 3, 6, 10, 60, 61, -1, 5] (by decide)
    have HLN : Hid (g < w6.heap.size) := HG6.out.dc.dr.lt
    have HGl : Hid (Gq w1 WL1 g v code (.slice sa M6 sc) _ _) := HG6.out.below ba
    have HWL : Hid (w6.alloc (Obj.cells #[.int .i64 0, .int .i64 3, .int .i64 6, .int .i64 10, .int .i64 60, .int .i64 61, .int .i64 (-1), .int .i64 5] 3) = WL1) := hWL
    clear ba hWL HG6
    go_wp2_with (fail)
    rw [HWL.out]
    refine (pickInt_c g v code _ [0, 3, 6, 10, 60, 61, -1, 5] _ HGl.out.dc.dr HLR.out (.inr (by have := HLN.out; simp [Value.ownBlock]; omega)) (by decide) (by decide)).mono ?_
    rintro e x1 ⟨k1, rfl, hk1, d1, g1⟩
    have HG6 : Hid (Gq w1 x1 g v code (.slice sa M6 sc) _ _) := HGl.out.draw d1 g1
    clear d1 g1 HGl HLR HWL HLN
    obtain ⟨WL2, hWL⟩ : ∃ W, x1.alloc (Obj.cells #[.int .i64 1, .int .i64 2, .int .i64 3, .int .i64 5, .int .i64 20, .int .i64 21, .int .i64 0, .int .i64 2] 3) = W := ⟨_, rfl⟩
    have ba : Below x1.heap.size x1 WL2 := by rw [← hWL]; exact (Below.refl _ _).alloc (Nat.le_refl _) _
    have HLR : Hid (Rd .i64 WL2 (.slice (some ⟨x1.heap.size, 0, none⟩) 8 8) [1, 2, 3, 5, 20, 21, 0, 2]) := by rw [← hWL]; exact Rd.lit x1 [1, 2, 3, 5, 20, 21, 0, 2] (by decide)
    have HLN : Hid (g < x1.heap.size) := HG6.out.dc.dr.lt
    have HGl : Hid (Gq w1 WL2 g v code (.slice sa M6 sc) _ _) := HG6.out.below ba
    have HWL : Hid (x1.alloc (Obj.cells #[.int .i64 1, .int .i64 2, .int .i64 3, .int .i64 5, .int .i64 20, .int .i64 21, .int .i64 0, .int .i64 2] 3) = WL2) := hWL
    clear ba hWL HG6
    go_wp2_with (fail)
    rw [HWL.out]
    refine (pickInt_c g v code _ [1, 2, 3, 5, 20, 21, 0, 2] _ HGl.out.dc.dr HLR.out (.inr (by have := HLN.out; simp [Value.ownBlock]; omega)) (by decide) (by decide)).mono ?_
    rintro e x2 ⟨k2, rfl, hk2, d1, g1⟩
    have HG6 : Hid (Gq w1 x2 g v code (.slice sa M6 sc) _ _) := HGl.out.draw d1 g1
    clear d1 g1 HGl HLR HWL HLN
    have HR9 : Hid (Rn x2 (.slice sa M6 sc) _) := HG6.out.rd
    have HB9 : Hid (Below w.heap.size w x2) := HG6.out.dc.ahead HB.out.1 HB.out.2
    clear HG6 hk1 hk2
    go_wp2
    exact bodyPost_ret (results_tmp3 rfl _ _ _) rfl ⟨_, _, _, _, rfl, HR9.out, HB9.out⟩
  case neg =>
  by_cases hr1 : r = 1
  case pos =>
    subst hr1
    clear r0
    by_cases hN0 : N = 0
    case pos =>
      subst hN0
      have HG6 : Hid (Gq w1 w3 g v code (.slice va 0 vc) us ls) := HG3.out.gq
      clear HG3 hvb hr
      obtain ⟨WL1, hWL⟩ : ∃ W, w3.alloc (Obj.cells #[.int .i64 0, .int .i64 3, .int .i64 6, .int .i64 10, .int .i64 60, .int .i64 61, .int .i64 (-1), .int .i64 5] 3) = W := ⟨_, rfl⟩
      have ba : Below w3.heap.size w3 WL1 := by rw [← hWL]; exact (Below.refl _ _).alloc (Nat.le_refl _) _
      have HLR : Hid (Rd .i64 WL1 (.slice (some ⟨w3.heap.size, 0, none⟩) 8 8) [0, 3, 6, 10, 60, 61, -1, 5]) := by rw [← hWL]; exact Rd.lit w3 [0, 3, 6, 10, 60, 61, -1, 5] (by decide)
      have HLN : Hid (g < w3.heap.size) := HG6.out.dc.dr.lt
      have HGl : Hid (Gq w1 WL1 g v code (.slice va 0 vc) _ _) := HG6.out.below ba
      have HWL : Hid (w3.alloc (Obj.cells #[.int .i64 0, .int .i64 3, .int .i64 6, .int .i64 10, .int .i64 60, .int .i64 61, .int .i64 (-1), .int .i64 5] 3) = WL1) := hWL
      clear ba hWL HG6
      go_wp2_with (fail)
      rw [HWL.out]
      refine (pickInt_c g v code _ [0, 3, 6, 10, 60, 61, -1, 5] _ HGl.out.dc.dr HLR.out (.inr (by have := HLN.out; simp [Value.ownBlock]; omega)) (by decide) (by decide)).mono ?_
      rintro e x1 ⟨k1, rfl, hk1, d1, g1⟩
      have HG6 : Hid (Gq w1 x1 g v code (.slice va 0 vc) _ _) := HGl.out.draw d1 g1
      clear d1 g1 HGl HLR HWL HLN
      obtain ⟨WL2, hWL⟩ : ∃ W, x1.alloc (Obj.cells #[.int .i64 1, .int .i64 2, .int .i64 3, .int .i64 5, .int .i64 20, .int .i64 21, .int .i64 0, .int .i64 2] 3) = W := ⟨_, rfl⟩
      have ba : Below x1.heap.size x1 WL2 := by rw [← hWL]; exact (Below.refl _ _).alloc (Nat.le_refl _) _
      have HLR : Hid (Rd .i64 WL2 (.slice (some ⟨x1.heap.size, 0, none⟩) 8 8) [1, 2, 3, 5, 20, 21, 0, 2]) := by rw [← hWL]; exact Rd.lit x1 [1, 2, 3, 5, 20, 21, 0, 2] (by decide)
      have HLN : Hid (g < x1.heap.size) := HG6.out.dc.dr.lt
      have HGl : Hid (Gq w1 WL2 g v code (.slice va 0 vc) _ _) := HG6.out.below ba
      have HWL : Hid (x1.alloc (Obj.cells #[.int .i64 1, .int .i64 2, .int .i64 3, .int .i64 5, .int .i64 20, .int .i64 21, .int .i64 0, .int .i64 2] 3) = WL2) := hWL
      clear ba hWL HG6
      go_wp2_with (fail)
      rw [HWL.out]
      refine (pickInt_c g v code _ [1, 2, 3, 5, 20, 21, 0, 2] _ HGl.out.dc.dr HLR.out (.inr (by have := HLN.out; simp [Value.ownBlock]; omega)) (by decide) (by decide)).mono ?_
      rintro e x2 ⟨k2, rfl, hk2, d1, g1⟩
      have HG6 : Hid (Gq w1 x2 g v code (.slice va 0 vc) _ _) := HGl.out.draw d1 g1
      clear d1 g1 HGl HLR HWL HLN
      have HR9 : Hid (Rn x2 (.slice va 0 vc) _) := HG6.out.rd
      have HB9 : Hid (Below w.heap.size w x2) := HG6.out.dc.ahead HB.out.1 HB.out.2
      clear HG6 hk1 hk2
      go_wp2
      exact bodyPost_ret (results_tmp3 rfl _ _ _) rfl ⟨_, _, _, _, rfl, HR9.out, HB9.out⟩
    case neg =>
    have hNi : (0 : Int) < (N : Int) := by omega
    obtain ⟨bv, hbv⟩ : ∃ b, va = some ⟨b, 0, none⟩ := by
      rcases hvb with h0 | h0
      · exact absurd h0 (by rw [HN.out]; exact hN0)
      · exact h0
    subst hbv
    have HLP : Hid (0 < ls.length) := by show 0 < _; have h1 := HG3.out.len; have h2 := HN.out; omega
    have HRL0 := (HL1.out.2 0 HLP.out)
    obtain ⟨ua, uc, hu0, huc, -, hub⟩ := own_form (HG3.out.own 0 HLP.out)
    obtain ⟨b0, hb0⟩ : ∃ b, ua = some ⟨b, 0, none⟩ := by
      rcases hub with h0 | h0
      · omega
      · exact h0
    subst hb0
    have HU0 : Hid (us.getD 0 vN = .slice (some ⟨b0, 0, none⟩) (ls.getD 0 []).length uc) := hu0
    have HRL : Hid (1 ≤ (ls.getD 0 []).length ∧ (ls.getD 0 []).length ≤ 5) := HRL0
    obtain ⟨RL, hRL⟩ : ∃ R, (ls.getD 0 []).length = R := ⟨_, rfl⟩
    have HRE : Hid ((ls.getD 0 []).length = RL) := hRL
    rw [hRL] at HU0 HRL
    have hRL1 := HRL.out.1
    have HNE : Hid (0 < us.length) := by show 0 < _; rw [HN.out]; omega
    clear hr hRL HRL0 hu0 huc hub hvb
    obtain ⟨S, hS⟩ : ∃ S : World → Prop, S = fun W' => W'.cell? ⟨bv, 0, none⟩ = some (.slice (some ⟨b0, 0, none⟩) RL uc) := ⟨_, rfl⟩
    have HSF : Hid (∀ W', S W' → W'.cell? ⟨bv, 0, none⟩ = some (.slice (some ⟨b0, 0, none⟩) RL uc)) := fun W' h => by rw [hS] at h; exact h
    have HSG : Hid (∀ W', W'.cell? ⟨bv, 0, none⟩ = some (.slice (some ⟨b0, 0, none⟩) RL uc) → S W') := fun W' h => by rw [hS]; exact h
    have HSC : Hid (∀ W, Gd w1 W g v code (.slice (some ⟨bv, 0, none⟩) N vc) us ls → S W) := fun W h => HSG.out _ (by
      have := HNE.out
      rw [← HN.out] at h
      rw [World.ownsRow.cellAt h.row 0 (by omega), List.getElem?_eq_getElem HNE.out]
      have h9 := HU0.out
      rw [List.getD_eq_getElem?_getD, List.getElem?_eq_getElem HNE.out] at h9
      simp at h9; rw [h9])
    have HG4 : Hid (Gd w1 w3.drew g v code (.slice (some ⟨bv, 0, none⟩) N vc) us ls) := HG3.out.below (Below.refl _ _).drew
    have HSD : Hid (S w3.drew) := HSC.out _ HG4.out
    have y0 : ∀ V : At S, V.wd.cell? ⟨bv, 0, none⟩ = some (.slice (some ⟨b0, 0, none⟩) RL uc) := fun V => HSF.out _ V.ok
    have ne : Nonempty (At S) := ⟨⟨_, HSD.out⟩⟩
    clear hS
    go_wp2
    refine region_mixT [true, true, true, true, false, false, false, false] 6 2 S (by kernel_rfl) rfl (by kernel_rfl) (fun _ _ _ _ _ h => h) HSD.out ?_
    simp only [selT, selF]
    try simp only [Act.put]
    repeat (go_big_quiet_step (fail))
    refine wpQuiet_nil ?_
    obtain ⟨V, hV⟩ : ∃ V, w3.drew = V := ⟨_, rfl⟩
    rw [hV] at HG4 ⊢
    clear hV y0 ne HG3 HSD
    obtain ⟨WL, hWL⟩ : ∃ W, V.alloc (Obj.cells #[.int .i64 1, .int .i64 (-121)] 3) = W := ⟨_, rfl⟩
    have ba : Below V.heap.size V WL := by rw [← hWL]; exact (Below.refl _ _).alloc (Nat.le_refl _) _
    have HLR : Hid (Rd .i64 WL (.slice (some ⟨V.heap.size, 0, none⟩) 2 2) [1, -121]) := by rw [← hWL]; exact Rd.lit V [1, -121] (by decide)
    have HLN : Hid (g < V.heap.size) := HG4.out.dc.dr.lt
    have HG5 : Hid (Gd w1 WL g v code (.slice (some ⟨bv, 0, none⟩) N vc) us ls) := HG4.out.below ba
    have HWL : Hid (V.alloc (Obj.cells #[.int .i64 1, .int .i64 (-121)] 3) = WL) := hWL
    clear ba hWL HG4
    refine tail_step ?_
    go_wp2
    rw [HWL.out]
    refine ⟨HSC.out _ HG5.out, tail_step ?_⟩
    go_wp2_with (fail)
    refine (pickInt_c g v code _ [1, -121] _ HG5.out.dc.dr HLR.out (.inr (by have := HLN.out; simp [Value.ownBlock]; omega)) (by decide) (by decide)).mono ?_
    rintro e w6 ⟨x, rfl, -, d1, g1⟩
    have HG6' : Hid (Gd w1 w6 g v code (.slice (some ⟨bv, 0, none⟩) N vc) us ls) := HG5.out.draw d1 g1
    have HS6 : Hid (S w6) := HSC.out _ HG6'.out
    clear d1 g1 HLR HWL HLN HG5
    have HG6 : Hid (Gq w1 (w6.setCell ⟨b0, 0, none⟩ (.int .i64 x)) g v code (.slice (some ⟨bv, 0, none⟩) N vc) us (ls.set 0 ((ls.getD 0 []).set 0 x))) := by
      have h9 := HU0.out
      rw [← HRE.out] at h9
      exact HG6'.out.cell0 HLP.out h9 rfl
    have hOO : w6.ownsRow w1.heap.size 3 1 (.slice (some ⟨b0, 0, none⟩) RL uc) RL ((ls.getD 0 []).map (Value.int .i64)) := by
      have h9 := HG6'.out.own 0 HLP.out
      rw [HU0.out, Ow, HRE.out] at h9; exact h9
    obtain ⟨yy, hyy⟩ : ∃ y, w6.cell? ⟨b0, 0, none⟩ = some y := ⟨_, by rw [hOO.cellAt 0 (by omega)]; exact List.getElem?_eq_getElem (by rw [List.length_map, HRE.out]; omega)⟩
    have hzz : w6.frozen? ⟨b0, 0, none⟩ = false := hOO.frozenAt 0
    clear hOO HG6'
    go_wp2
    refine ⟨HS6.out, tail_end ?_⟩
    obtain ⟨w7, hw7⟩ : ∃ W, w6.setCell ⟨b0, 0, none⟩ (.int .i64 x) = W := ⟨_, rfl⟩
    rw [hw7] at HG6
    have HW7 : Hid (w6.setCell ⟨b0, 0, none⟩ (.int .i64 x) = w7) := hw7
    have HZ7 : Hid (w7.heap.size = w6.heap.size) := by show _ = _; rw [← hw7]; simp
    clear hw7 HS6 HSC HSF HSG
    obtain ⟨WL1, hWL⟩ : ∃ W, w7.alloc (Obj.cells #[.int .i64 0, .int .i64 3, .int .i64 6, .int .i64 10, .int .i64 60, .int .i64 61, .int .i64 (-1), .int .i64 5] 3) = W := ⟨_, rfl⟩
    have ba : Below w7.heap.size w7 WL1 := by rw [← hWL]; exact (Below.refl _ _).alloc (Nat.le_refl _) _
    have HLR : Hid (Rd .i64 WL1 (.slice (some ⟨w7.heap.size, 0, none⟩) 8 8) [0, 3, 6, 10, 60, 61, -1, 5]) := by rw [← hWL]; exact Rd.lit w7 [0, 3, 6, 10, 60, 61, -1, 5] (by decide)
    have HLN : Hid (g < w7.heap.size) := HG6.out.dc.dr.lt
    have HGl : Hid (Gq w1 WL1 g v code (.slice (some ⟨bv, 0, none⟩) N vc) _ _) := HG6.out.below ba
    have HWL : Hid (w7.alloc (Obj.cells #[.int .i64 0, .int .i64 3, .int .i64 6, .int .i64 10, .int .i64 60, .int .i64 61, .int .i64 (-1), .int .i64 5] 3) = WL1) := hWL
    clear ba hWL HG6
    rw [HZ7.out] at HLR HLN
    go_wp2_with (fail)
    rw [HW7.out]
    rw [HWL.out]
    refine (pickInt_c g v code _ [0, 3, 6, 10, 60, 61, -1, 5] _ HGl.out.dc.dr HLR.out (.inr (by have := HLN.out; simp [Value.ownBlock]; omega)) (by decide) (by decide)).mono ?_
    rintro e x1 ⟨k1, rfl, hk1, d1, g1⟩
    have HG6 : Hid (Gq w1 x1 g v code (.slice (some ⟨bv, 0, none⟩) N vc) _ _) := HGl.out.draw d1 g1
    clear d1 g1 HGl HLR HWL HLN
    obtain ⟨WL2, hWL⟩ : ∃ W, x1.alloc (Obj.cells #[.int .i64 1, .int .i64 2, .int .i64 3, .int .i64 5, .int .i64 20, .int .i64 21, .int .i64 0, .int .i64 2] 3) = W := ⟨_, rfl⟩
    have ba : Below x1.heap.size x1 WL2 := by rw [← hWL]; exact (Below.refl _ _).alloc (Nat.le_refl _) _
    have HLR : Hid (Rd .i64 WL2 (.slice (some ⟨x1.heap.size, 0, none⟩) 8 8) [1, 2, 3, 5, 20, 21, 0, 2]) := by rw [← hWL]; exact Rd.lit x1 [1, 2, 3, 5, 20, 21, 0, 2] (by decide)
    have HLN : Hid (g < x1.heap.size) := HG6.out.dc.dr.lt
    have HGl : Hid (Gq w1 WL2 g v code (.slice (some ⟨bv, 0, none⟩) N vc) _ _) := HG6.out.below ba
    have HWL : Hid (x1.alloc (Obj.cells #[.int .i64 1, .int .i64 2, .int .i64 3, .int .i64 5, .int .i64 20, .int .i64 21, .int .i64 0, .int .i64 2] 3) = WL2) := hWL
    clear ba hWL HG6
    go_wp2_with (fail)
    rw [HWL.out]
    refine (pickInt_c g v code _ [1, 2, 3, 5, 20, 21, 0, 2] _ HGl.out.dc.dr HLR.out (.inr (by have := HLN.out; simp [Value.ownBlock]; omega)) (by decide) (by decide)).mono ?_
    rintro e x2 ⟨k2, rfl, hk2, d1, g1⟩
    have HG6 : Hid (Gq w1 x2 g v code (.slice (some ⟨bv, 0, none⟩) N vc) _ _) := HGl.out.draw d1 g1
    clear d1 g1 HGl HLR HWL HLN
    have HR9 : Hid (Rn x2 (.slice (some ⟨bv, 0, none⟩) N vc) _) := HG6.out.rd
    have HB9 : Hid (Below w.heap.size w x2) := HG6.out.dc.ahead HB.out.1 HB.out.2
    clear HG6 hk1 hk2
    go_wp2
    exact bodyPost_ret (results_tmp3 rfl _ _ _) rfl ⟨_, _, _, _, rfl, HR9.out, HB9.out⟩
  case neg =>
  by_cases hr2 : r = 2
  case neg =>
    have hq0 : (r == 0) = false := by simpa using hr
    have hq1 : (r == 1) = false := by simpa using hr1
    have hq2 : (r == 2) = false := by simpa using hr2
    have HG6 : Hid (Gq w1 w3 g v code (.slice va N vc) us ls) := HG3.out.gq
    clear HG3 hvb r0
    obtain ⟨WL1, hWL⟩ : ∃ W, w3.alloc (Obj.cells #[.int .i64 0, .int .i64 3, .int .i64 6, .int .i64 10, .int .i64 60, .int .i64 61, .int .i64 (-1), .int .i64 5] 3) = W := ⟨_, rfl⟩
    have ba : Below w3.heap.size w3 WL1 := by rw [← hWL]; exact (Below.refl _ _).alloc (Nat.le_refl _) _
    have HLR : Hid (Rd .i64 WL1 (.slice (some ⟨w3.heap.size, 0, none⟩) 8 8) [0, 3, 6, 10, 60, 61, -1, 5]) := by rw [← hWL]; exact Rd.lit w3 [0, 3, 6, 10, 60, 61, -1, 5] (by decide)
    have HLN : Hid (g < w3.heap.size) := HG6.out.dc.dr.lt
    have HGl : Hid (Gq w1 WL1 g v code (.slice va N vc) _ _) := HG6.out.below ba
    have HWL : Hid (w3.alloc (Obj.cells #[.int .i64 0, .int .i64 3, .int .i64 6, .int .i64 10, .int .i64 60, .int .i64 61, .int .i64 (-1), .int .i64 5] 3) = WL1) := hWL
    clear ba hWL HG6
    go_wp2_with (fail)
    rw [HWL.out]
    refine (pickInt_c g v code _ [0, 3, 6, 10, 60, 61, -1, 5] _ HGl.out.dc.dr HLR.out (.inr (by have := HLN.out; simp [Value.ownBlock]; omega)) (by decide) (by decide)).mono ?_
    rintro e x1 ⟨k1, rfl, hk1, d1, g1⟩
    have HG6 : Hid (Gq w1 x1 g v code (.slice va N vc) _ _) := HGl.out.draw d1 g1
    clear d1 g1 HGl HLR HWL HLN
    obtain ⟨WL2, hWL⟩ : ∃ W, x1.alloc (Obj.cells #[.int .i64 1, .int .i64 2, .int .i64 3, .int .i64 5, .int .i64 20, .int .i64 21, .int .i64 0, .int .i64 2] 3) = W := ⟨_, rfl⟩
    have ba : Below x1.heap.size x1 WL2 := by rw [← hWL]; exact (Below.refl _ _).alloc (Nat.le_refl _) _
    have HLR : Hid (Rd .i64 WL2 (.slice (some ⟨x1.heap.size, 0, none⟩) 8 8) [1, 2, 3, 5, 20, 21, 0, 2]) := by rw [← hWL]; exact Rd.lit x1 [1, 2, 3, 5, 20, 21, 0, 2] (by decide)
    have HLN : Hid (g < x1.heap.size) := HG6.out.dc.dr.lt
    have HGl : Hid (Gq w1 WL2 g v code (.slice va N vc) _ _) := HG6.out.below ba
    have HWL : Hid (x1.alloc (Obj.cells #[.int .i64 1, .int .i64 2, .int .i64 3, .int .i64 5, .int .i64 20, .int .i64 21, .int .i64 0, .int .i64 2] 3) = WL2) := hWL
    clear ba hWL HG6
    go_wp2_with (fail)
    rw [HWL.out]
    refine (pickInt_c g v code _ [1, 2, 3, 5, 20, 21, 0, 2] _ HGl.out.dc.dr HLR.out (.inr (by have := HLN.out; simp [Value.ownBlock]; omega)) (by decide) (by decide)).mono ?_
    rintro e x2 ⟨k2, rfl, hk2, d1, g1⟩
    have HG6 : Hid (Gq w1 x2 g v code (.slice va N vc) _ _) := HGl.out.draw d1 g1
    clear d1 g1 HGl HLR HWL HLN
    have HR9 : Hid (Rn x2 (.slice va N vc) _) := HG6.out.rd
    have HB9 : Hid (Below w.heap.size w x2) := HG6.out.dc.ahead HB.out.1 HB.out.2
    clear HG6 hk1 hk2
    go_wp2
    exact bodyPost_ret (results_tmp3 rfl _ _ _) rfl ⟨_, _, _, _, rfl, HR9.out, HB9.out⟩
  case pos =>
  subst hr2
  have HDC : Hid (Dc w1 w3 g v code) := HG3.out.dc
  have HSZ : Hid (w1.heap.size ≤ w3.heap.size) := HG3.out.size
  obtain ⟨i0, hi, hz0, hz1, hz2⟩ := info_parts toSInfo
  clear HG3 hvb r0 HL1 HN hr hr1
  go_wp2_with (at_make; refine wpList_make_full _ rfl _ _ 24 rfl w1.heap.size 27 i0 (.slice none 0 0) 1 Try.underlying24 hi hz0 hz1 .i64 .i64 _ _ 201 rfl rfl rfl rfl (by rw [hz2]; omega) (by unfold maxLen; omega) HSZ.out ?_)
  intro w4 ho hg
  have hx : (madeCells #[Value.slice none 0 0] 201).toList = List.replicate 201 vN := by rw [toList_madeCells_one]
  rw [hx] at ho
  obtain ⟨bm, hbm⟩ : ∃ b, w3.heap.size = b := ⟨_, rfl⟩
  have HO0 : Hid (w4.ownsRow w1.heap.size 27 1 (.slice (some ⟨bm, 0, none⟩) 201 201) 201 (List.replicate 201 vN)) := by rw [← hbm]; exact ho
  have HD4 : Hid (Dc w1 w4 g v code) := HDC.out.app (row := none) (fun k e => by cases e) hg
  have HBM : Hid (w1.heap.size ≤ bm ∧ bm < w4.heap.size) := World.ownsRow.lt HO0.out bm rfl
  rw [hbm]
  clear hx ho hg hi hz0 hz1 hz2 HDC HSZ hbm
  go_wp2
  go_loopw [7] (fun i wr => ∃ (j : Nat) (us : List Value), j ≤ 201 ∧ i = .int .i64 j ∧ Hid (us.length = 201) ∧ Hid (wr.ownsRow w1.heap.size 27 1 (.slice (some ⟨bm, 0, none⟩) 201 201) 201 us) ∧ Hid (∀ i, i < j → Ow .i64 3 w1.heap.size wr (us.getD i vN) [-50] ∧ (us.getD i vN).ownBlock ≠ some bm) ∧ Hid (Dc w1 wr g v code) ∧ Hid (bm < wr.heap.size)) (fun i _ => 201 - (intOf i).toNat)
  case atStart => exact ⟨0, _, by omega, rfl, by show _ = _; simp, HO0.out, fun i hi => by omega, HD4.out, HBM.out.2⟩
  case round =>
    obtain ⟨j, us, hj, rfl, hU, hO, hA, hD, hS⟩ := hrel
    clear HO0 HD4
    by_cases hlt : j < 201
    case neg =>
      obtain rfl : j = 201 := by omega
      have HG6 : Hid (Gq w1 wr g v code (.slice (some ⟨bm, 0, none⟩) 201 201) us (List.replicate 201 [-50])) := by
        refine ⟨by rw [hU.out]; simp, by rw [hU.out]; exact hO.out, fun i hi => ?_, hD.out⟩
        have hi2 : i < 201 := by simpa using hi
        have e : (List.replicate 201 ([-50] : List Int)).getD i [] = [-50] := by rw [List.getD_eq_getElem?_getD, List.getElem?_replicate]; simp [hi2]
        rw [e]; exact (hA.out i hi2).1
      clear hO hA hD hU hj hlt
      obtain ⟨WL1, hWL⟩ : ∃ W, wr.alloc (Obj.cells #[.int .i64 0, .int .i64 3, .int .i64 6, .int .i64 10, .int .i64 60, .int .i64 61, .int .i64 (-1), .int .i64 5] 3) = W := ⟨_, rfl⟩
      have ba : Below wr.heap.size wr WL1 := by rw [← hWL]; exact (Below.refl _ _).alloc (Nat.le_refl _) _
      have HLR : Hid (Rd .i64 WL1 (.slice (some ⟨wr.heap.size, 0, none⟩) 8 8) [0, 3, 6, 10, 60, 61, -1, 5]) := by rw [← hWL]; exact Rd.lit wr [0, 3, 6, 10, 60, 61, -1, 5] (by decide)
      have HLN : Hid (g < wr.heap.size) := HG6.out.dc.dr.lt
      have HGl : Hid (Gq w1 WL1 g v code (.slice (some ⟨bm, 0, none⟩) 201 201) _ _) := HG6.out.below ba
      have HWL : Hid (wr.alloc (Obj.cells #[.int .i64 0, .int .i64 3, .int .i64 6, .int .i64 10, .int .i64 60, .int .i64 61, .int .i64 (-1), .int .i64 5] 3) = WL1) := hWL
      clear ba hWL HG6
      go_wp2_with (fail)
      rw [HWL.out]
      refine (pickInt_c g v code _ [0, 3, 6, 10, 60, 61, -1, 5] _ HGl.out.dc.dr HLR.out (.inr (by have := HLN.out; simp [Value.ownBlock]; omega)) (by decide) (by decide)).mono ?_
      rintro e x1 ⟨k1, rfl, hk1, d1, g1⟩
      have HG6 : Hid (Gq w1 x1 g v code (.slice (some ⟨bm, 0, none⟩) 201 201) _ _) := HGl.out.draw d1 g1
      clear d1 g1 HGl HLR HWL HLN
      obtain ⟨WL2, hWL⟩ : ∃ W, x1.alloc (Obj.cells #[.int .i64 1, .int .i64 2, .int .i64 3, .int .i64 5, .int .i64 20, .int .i64 21, .int .i64 0, .int .i64 2] 3) = W := ⟨_, rfl⟩
      have ba : Below x1.heap.size x1 WL2 := by rw [← hWL]; exact (Below.refl _ _).alloc (Nat.le_refl _) _
      have HLR : Hid (Rd .i64 WL2 (.slice (some ⟨x1.heap.size, 0, none⟩) 8 8) [1, 2, 3, 5, 20, 21, 0, 2]) := by rw [← hWL]; exact Rd.lit x1 [1, 2, 3, 5, 20, 21, 0, 2] (by decide)
      have HLN : Hid (g < x1.heap.size) := HG6.out.dc.dr.lt
      have HGl : Hid (Gq w1 WL2 g v code (.slice (some ⟨bm, 0, none⟩) 201 201) _ _) := HG6.out.below ba
      have HWL : Hid (x1.alloc (Obj.cells #[.int .i64 1, .int .i64 2, .int .i64 3, .int .i64 5, .int .i64 20, .int .i64 21, .int .i64 0, .int .i64 2] 3) = WL2) := hWL
      clear ba hWL HG6
      go_wp2_with (fail)
      rw [HWL.out]
      refine (pickInt_c g v code _ [1, 2, 3, 5, 20, 21, 0, 2] _ HGl.out.dc.dr HLR.out (.inr (by have := HLN.out; simp [Value.ownBlock]; omega)) (by decide) (by decide)).mono ?_
      rintro e x2 ⟨k2, rfl, hk2, d1, g1⟩
      have HG6 : Hid (Gq w1 x2 g v code (.slice (some ⟨bm, 0, none⟩) 201 201) _ _) := HGl.out.draw d1 g1
      clear d1 g1 HGl HLR HWL HLN
      have HR9 : Hid (Rn x2 (.slice (some ⟨bm, 0, none⟩) 201 201) _) := HG6.out.rd
      have HB9 : Hid (Below w.heap.size w x2) := HG6.out.dc.ahead HB.out.1 HB.out.2
      clear HG6 hk1 hk2
      go_wp2
      exact bodyPost_ret (results_tmp3 rfl _ _ _) rfl ⟨_, _, _, _, rfl, HR9.out, HB9.out⟩
    case pos =>
    have hjI : (j : Int) < 201 := by omega
    obtain ⟨WA, hWA⟩ : ∃ W, wr.alloc (Obj.cells #[.int .i64 (-50)] 3) = W := ⟨_, rfl⟩
    have ba : Below wr.heap.size wr WA := by rw [← hWA]; exact (Below.refl _ _).alloc (Nat.le_refl _) _
    have HOA : Hid (Ow .i64 3 w1.heap.size WA (.slice (some ⟨wr.heap.size, 0, none⟩) 1 1) [-50]) := by
      rw [← hWA]
      exact World.ownsRow_lit (e := 3) (size := 1) (base := w1.heap.size) wr #[.int .i64 (-50)] 1 (by have := HBM.out.1; have := hS.out; omega) (by unfold maxLen; omega) (by simp)
    have HOB : Hid (WA.ownsRow w1.heap.size 27 1 (.slice (some ⟨bm, 0, none⟩) 201 201) 201 us) := by rw [← hWA]; exact World.ownsRow.alloc hO.out _
    have HSA : Hid (bm < WA.heap.size ∧ wr.heap.size < WA.heap.size) := by rw [← hWA]; have := hS.out; exact ⟨by simp; omega, by simp⟩
    have hc0 : ∃ y, WA.cell? ⟨bm, j, none⟩ = some y := ⟨_, by rw [HOB.out.cellAt j (by omega)]; exact List.getElem?_eq_getElem (by rw [hU.out]; exact hlt)⟩
    obtain ⟨yy, hyy⟩ := hc0
    have hzz : WA.frozen? ⟨bm, j, none⟩ = false := HOB.out.frozenAt j
    have hgr : WA.grownBy (WA.setCell ⟨bm, j, none⟩ (.slice (some ⟨wr.heap.size, 0, none⟩) 1 1)) (some bm) := ⟨rfl, rfl, rfl, by simp [World.setCell], fun i _ hi => Below.heap_setCell _ _ _ _ (fun e => hi (by simp [e]))⟩
    have HF : Hid ((us.set j (Value.slice (some ⟨wr.heap.size, 0, none⟩) 1 1)).length = 201 ∧ (WA.setCell ⟨bm, j, none⟩ (.slice (some ⟨wr.heap.size, 0, none⟩) 1 1)).ownsRow w1.heap.size 27 1 (.slice (some ⟨bm, 0, none⟩) 201 201) 201 (us.set j (Value.slice (some ⟨wr.heap.size, 0, none⟩) 1 1)) ∧ (∀ i, i < j + 1 → Ow .i64 3 w1.heap.size (WA.setCell ⟨bm, j, none⟩ (.slice (some ⟨wr.heap.size, 0, none⟩) 1 1)) ((us.set j (Value.slice (some ⟨wr.heap.size, 0, none⟩) 1 1)).getD i vN) [-50] ∧ ((us.set j (Value.slice (some ⟨wr.heap.size, 0, none⟩) 1 1)).getD i vN).ownBlock ≠ some bm) ∧ Dc w1 (WA.setCell ⟨bm, j, none⟩ (.slice (some ⟨wr.heap.size, 0, none⟩) 1 1)) g v code ∧ bm < (WA.setCell ⟨bm, j, none⟩ (.slice (some ⟨wr.heap.size, 0, none⟩) 1 1)).heap.size) := by
      refine ⟨by rw [List.length_set]; exact hU.out, (HOB.out.stored j _).1, fun i hi => ?_, (hD.out.below ba).app (row := some bm) (fun k e => by cases e; exact HBM.out.1) hgr, by simp [World.setCell]; exact HSA.out.1⟩
      by_cases hij : i = j
      · subst hij
        have e : (us.set i (Value.slice (some ⟨wr.heap.size, 0, none⟩) 1 1)).getD i vN = Value.slice (some ⟨wr.heap.size, 0, none⟩) 1 1 := by
          rw [List.getD_eq_getElem?_getD, List.getElem?_set_self (by rw [hU.out]; exact hlt)]; rfl
        rw [e]
        have hne : (Value.slice (some ⟨wr.heap.size, 0, none⟩) 1 1).ownBlock ≠ some bm := by simp [Value.ownBlock]; have := hS.out; omega
        exact ⟨World.ownsRow.kept HOA.out hgr (.inr hne), hne⟩
      · have e : (us.set j (Value.slice (some ⟨wr.heap.size, 0, none⟩) 1 1)).getD i vN = us.getD i vN := by
          rw [List.getD_eq_getElem?_getD, List.getElem?_set_ne (by omega), List.getD_eq_getElem?_getD]
        rw [e]
        have h1 := hA.out i (by omega)
        exact ⟨World.ownsRow.kept (h1.1.below ba) hgr (.inr h1.2), h1.2⟩
    have HWA : Hid (wr.alloc (Obj.cells #[.int .i64 (-50)] 3) = WA) := hWA
    rw [← hWA] at hyy hzz
    clear ba hWA HOA HOB hO hA hD hgr HSA hU
    go_wp2
    rw [HWA.out]
    go_roundw
    case rel => exact ⟨j + 1, _, by omega, by go_num, HF.out.1, HF.out.2.1, HF.out.2.2.1, HF.out.2.2.2.1, HF.out.2.2.2.2⟩
    case measure => simp [intOf]; omega

end Go.Proofs.Ytikgempdohpdjaa
