/- DrawLoudness; no condition. -/
import Derived.Test.YtikgempdohpdjaaGng
import Derived.Test.YtikgempdohpdjaaMixT
namespace Go.Proofs.Ytikgempdohpdjaa
open Go.RowKit Go.ChangeShapes Go.WideShapes Go.ChangeAt
set_option linter.unusedVariables false
set_option linter.unusedSimpArgs false
set_option maxRecDepth 8000

theorem results_tmp4 {fn : Func} {t u v x : Tmp} (h : fn.results = #[.tmp t, .tmp u, .tmp v, .tmp x]) (tmps : Array Value) (P : Program) (w : World) :
    (results fn tmps).run P w = .ok (.tuple #[tmps.getD t undef, tmps.getD u undef, tmps.getD v undef, tmps.getD x undef]) w := by
  simp [results, h]

/-- rows of one's own that are still drawn beside -/
structure Gq (w1 W : World) (g : Nat) (cv : Value) (code : List Int) (v : Value) (us : List Value) (ls : List (List Int)) : Prop where
  len : us.length = ls.length
  row : W.ownsRow w1.heap.size 27 1 v us.length us
  own : ∀ i, i < ls.length → Ow .i64 3 w1.heap.size W (us.getD i vN) (ls.getD i [])
  dc : Dc w1 W g cv code
theorem Gd.gq {w1 W : World} {g : Nat} {cv : Value} {code : List Int} {v : Value} {us : List Value} {ls : List (List Int)} (h : Gd w1 W g cv code v us ls) : Gq w1 W g cv code v us ls := ⟨h.len, h.row, h.own, h.dc⟩
theorem Gq.below {w1 W W' : World} {g : Nat} {cv : Value} {code : List Int} {v : Value} {us : List Value} {ls : List (List Int)} (h : Gq w1 W g cv code v us ls) (hb : Below W.heap.size W W') : Gq w1 W' g cv code v us ls :=
  ⟨h.len, World.ownsRow.kept (row := none) h.row ⟨hb.os, hb.tape, hb.output, hb.size, fun j hj _ => hb.block j hj⟩ (by cases v.ownBlock <;> simp), fun i hi => (h.own i hi).below hb, h.dc.below hb⟩
theorem Gq.draw {w1 W W' : World} {g : Nat} {cv : Value} {code : List Int} {v : Value} {us : List Value} {ls : List (List Int)} (h : Gq w1 W g cv code v us ls) (hd : Dr W' g cv code) (hg : W.grownBy W' (some g)) : Gq w1 W' g cv code v us ls :=
  ⟨h.len, own_grown h.row hg h.dc.lt, fun i hi => own_grown (h.own i hi) hg h.dc.lt, h.dc.draw hd hg⟩
theorem Gq.rd {w1 W : World} {g : Nat} {cv : Value} {code : List Int} {v : Value} {us : List Value} {ls : List (List Int)} (h : Gq w1 W g cv code v us ls) : Rn W v ls := rows_keep h.len h.row h.own (grown_refl W (some g)) h.dc.lt
theorem set_get {α : Type} (ls : List α) (x d : α) (h : 0 < ls.length) (i : Nat) : (ls.set 0 x).getD i d = if i = 0 then x else ls.getD i d := by
  rw [List.getD_eq_getElem?_getD, List.getElem?_set]
  by_cases hi : i = 0
  · subst hi; simp [h]
  · rw [if_neg (by omega), if_neg hi]; rfl
/-- the first row was turned (in its own block, or it went to a new one), then the list says so -/
theorem Gd.turn0 {w1 W W1 W2 : World} {g : Nat} {cv : Value} {code : List Int} {v u' : Value} {us : List Value} {ls : List (List Int)} {rs : List Int} {bv : Nat} {n cap : Nat} (h : Gd w1 W g cv code v us ls) (hl : 0 < ls.length) (hv : v = .slice (some ⟨bv, 0, none⟩) n cap) (hn : n = us.length)
    (hg : W.grownBy W1 (us.getD 0 vN).ownBlock) (ho : Ow .i64 3 w1.heap.size W1 u' rs) (hub : u'.ownBlock = (us.getD 0 vN).ownBlock ∨ u'.ownBlock = some W.heap.size) (hW2 : W2 = W1.setCell ⟨bv, 0, none⟩ u') : Gq w1 W2 g cv code v (us.set 0 u') (ls.set 0 rs) := by
  have hvb : v.ownBlock = some bv := by rw [hv]; rfl
  have hr1 : W1.ownsRow w1.heap.size 27 1 v us.length us := World.ownsRow.kept h.row hg (.inr fun e => h.ne 0 hl bv (e.symm.trans hvb) hvb)
  have hdc1 : Dc w1 W1 g cv code := h.dc.app (fun k e => (World.ownsRow.lt (h.own 0 hl) k e).1) hg
  have hst : (W1.setCell ⟨bv, 0, none⟩ u').ownsRow w1.heap.size 27 1 v us.length (us.set 0 u') ∧ W1.grownBy (W1.setCell ⟨bv, 0, none⟩ u') (some bv) := by
    rw [hv] at hr1 ⊢; rw [hn] at hr1 ⊢; exact hr1.stored 0 u'
  have hlen := h.len
  rw [hW2]
  refine ⟨by simp [hlen], by rw [List.length_set]; exact hst.1, fun i hi => ?_, hdc1.app (fun k e => by cases e; exact (World.ownsRow.lt h.row bv hvb).1) hst.2⟩
  rw [List.length_set] at hi
  rw [set_get us _ _ (by omega), set_get ls _ _ hl]
  by_cases h0 : i = 0
  · rw [if_pos h0, if_pos h0]
    refine World.ownsRow.kept ho hst.2 ?_
    cases hk : u'.ownBlock with
    | none => exact .inl rfl
    | some k =>
      refine .inr fun e => ?_
      cases e
      rcases hub with hh | hh
      · exact h.ne 0 hl bv (hh.symm.trans hk) hvb
      · rw [hk] at hh; cases hh
        have := (World.ownsRow.lt h.row _ hvb).2
        omega
  · rw [if_neg h0, if_neg h0]
    have h1 : Ow .i64 3 w1.heap.size W1 (us.getD i vN) (ls.getD i []) := World.ownsRow.kept (h.own i hi) hg (by
      cases hk : (us.getD i vN).ownBlock with
      | none => exact .inl rfl
      | some k => exact .inr fun e => h.ap 0 i (by omega) hi k e.symm hk)
    refine World.ownsRow.kept h1 hst.2 ?_
    cases hk : (us.getD i vN).ownBlock with
    | none => exact .inl rfl
    | some k => exact .inr fun e => by cases e; exact h.ne i hi bv hk hvb
theorem us_self {us : List Value} {u : Value} (h : us.getD 0 vN = u) (hl : 0 < us.length) : us.set 0 u = us := by
  apply List.ext_getElem
  · simp
  · intro i h1 h2
    rw [List.getElem_set]
    split
    · rename_i e; subst e; rw [← h, List.getD_eq_getElem?_getD, List.getElem?_eq_getElem h2]; rfl
    · rfl
/-- a cell of the first row was turned -/
theorem Gd.cell0 {w1 W : World} {g : Nat} {cv : Value} {code : List Int} {v : Value} {us : List Value} {ls : List (List Int)} {b0 n cap : Nat} {x : Int} (h : Gd w1 W g cv code v us ls) (hl : 0 < ls.length) (hu : us.getD 0 vN = .slice (some ⟨b0, 0, none⟩) n cap) (hn : n = (ls.getD 0 []).length) : Gq w1 (W.setCell ⟨b0, 0, none⟩ (.int .i64 x)) g cv code v us (ls.set 0 ((ls.getD 0 []).set 0 x)) := by
  have ho := h.own 0 hl
  have hub : (us.getD 0 vN).ownBlock = some b0 := by rw [hu]; rfl
  have hst : (W.setCell ⟨b0, 0, none⟩ (.int .i64 x)).ownsRow w1.heap.size 3 1 (us.getD 0 vN) (ls.getD 0 []).length (((ls.getD 0 []).map (Value.int .i64)).set 0 (.int .i64 x)) ∧ W.grownBy (W.setCell ⟨b0, 0, none⟩ (.int .i64 x)) (some b0) := by
    rw [Ow, hu, hn] at ho; rw [hu, hn]; exact ho.stored 0 _
  have hlen := h.len
  refine ⟨by simp [hlen], World.ownsRow.kept h.row hst.2 ?_, fun i hi => ?_, h.dc.app (fun k e => by cases e; exact (World.ownsRow.lt ho b0 hub).1) hst.2⟩
  · cases hv : v.ownBlock with
    | none => exact .inl rfl
    | some k => exact .inr fun e => by cases e; exact h.ne 0 hl b0 hub hv
  · rw [List.length_set] at hi
    rw [set_get ls _ _ hl]
    by_cases h0 : i = 0
    · subst h0
      rw [if_pos rfl, Ow, List.length_set, List.map_set]; exact hst.1
    · rw [if_neg h0]
      refine World.ownsRow.kept (h.own i hi) hst.2 ?_
      cases hk : (us.getD i vN).ownBlock with
      | none => exact .inl rfl
      | some k => exact .inr fun e => by cases e; exact h.ap 0 i (by omega) hi b0 hub hk
set_option maxHeartbeats 12800000 in
theorem drawLoud_c (v : Value) (code : List Int) (w : World) (h : Rd .u8 w v code) (hok : ∀ z ∈ code, 0 ≤ z ∧ z ≤ 255) (hlen : code.length ≤ 2097152) :
   Calls Try.prog 21 #[v] w fun e w' => ∃ (u : Value) (noise want steps : Int) (ls : List (List Int)), e = .returned (.tuple #[u, .int .i64 noise, .int .i64 want, .int .i64 steps]) ∧ Rn w' u ls ∧ (-1 ≤ steps ∧ steps ≤ 51) ∧ Below w.heap.size w w' := by
  go_enter Try.func21, Try.ntmps21
  go_wp2_with (fail)
  refine (new_c v code w h hok hlen).mono ?_
  rintro e w1 ⟨g, rfl, d1, hg, b1⟩
  have HB : Hid (Below w.heap.size w w1 ∧ w.heap.size ≤ g) := ⟨b1, hg⟩
  have HD1 : Hid (Dr w1 g v code) := d1
  clear d1 hg b1 h hok
  go_wp2_with (fail)
  refine (drawGains_c g v code _ HD1.out).mono ?_
  rintro e w2 ⟨vg, us, ls, rfl, hG, hl1, hl6, hsq⟩
  have HG2 : Hid (Gd w1 w2 g v code vg us ls) := hG
  have HL1 : Hid (1 ≤ ls.length ∧ ls.length ≤ 6 ∧ 1 ≤ (ls.getD 0 []).length ∧ (ls.getD 0 []).length ≤ 6) := ⟨hl1, hl6, by rw [hsq 0 (by omega)]; exact hl1, by rw [hsq 0 (by omega)]; exact hl6⟩
  clear hG hl1 hl6 hsq HD1
  go_wp2_with (fail)
  refine (below_c g v code 25 _ HG2.out.dc.dr (by omega)).mono ?_
  rintro e w3 ⟨r, rfl, r0, r1, -, d1, g1⟩
  have HG3 : Hid (Gd w1 w3 g v code vg us ls) := HG2.out.draw d1 g1
  clear d1 g1 r1 HG2
  obtain ⟨va, vc, hvg, -, -, hvb⟩ := own_form HG3.out.row
  obtain ⟨bv, hbv⟩ : ∃ b, va = some ⟨b, 0, none⟩ := by
    rcases hvb with h0 | h0
    · have := HL1.out.1; have := HG3.out.len; omega
    · exact h0
  subst hbv
  subst hvg
  have HNE : Hid (0 < us.length) := by show 0 < _; rw [HG3.out.len]; have := HL1.out.1; omega
  have HC0 : Hid (w3.cell? ⟨bv, 0, none⟩ = some (us.getD 0 vN)) := by
    show _ = _
    have := HNE.out
    rw [World.ownsRow.cellAt HG3.out.row 0 (by omega), List.getD_eq_getElem?_getD, List.getElem?_eq_getElem HNE.out]; rfl
  have HFZ : Hid (w3.frozen? ⟨bv, 0, none⟩ = false) := World.ownsRow.frozenAt HG3.out.row 0
  obtain ⟨ua, uc, hu0, huc, -, hub⟩ := own_form (HG3.out.own 0 HL1.out.1)
  obtain ⟨b0, hb0⟩ : ∃ b, ua = some ⟨b, 0, none⟩ := by
    rcases hub with h0 | h0
    · have := HL1.out.2.2.1; omega
    · exact h0
  subst hb0
  have HU0 : Hid (us.getD 0 vN = .slice (some ⟨b0, 0, none⟩) (ls.getD 0 []).length uc) := hu0
  clear hu0 huc hub hvb
  obtain ⟨N, hN⟩ : ∃ N, us.length = N := ⟨_, rfl⟩
  have HN : Hid (us.length = N) := hN
  have hN0 : 0 < N := by rw [← hN]; exact HNE.out
  rw [hN]
  clear hN
  by_cases hr : r = 0
  case pos =>
    subst hr
    have hc0 := HC0.out
    rw [HU0.out] at hc0
    have HO : Hid (Ow .i64 3 w1.heap.size w3 (.slice (some ⟨b0, 0, none⟩) (ls.getD 0 []).length uc) (ls.getD 0 [])) := by have := HG3.out.own 0 HL1.out.1; rw [HU0.out] at this; exact this
    have HSZ : Hid (w1.heap.size ≤ w3.heap.size) := HG3.out.size
    have HT0 : Hid (∀ u' W1 rs, (w3.alloc (.cells #[.int .i64 1] 3)).grownBy W1 (Value.slice (some ⟨b0, 0, none⟩) (ls.getD 0 []).length uc).ownBlock → Ow .i64 3 w1.heap.size W1 u' rs → (u'.ownBlock = (Value.slice (some ⟨b0, 0, none⟩) (ls.getD 0 []).length uc).ownBlock ∨ u'.ownBlock = some (w3.alloc (.cells #[.int .i64 1] 3)).heap.size) → Gq w1 (W1.setCell ⟨bv, 0, none⟩ u') g v code (.slice (some ⟨bv, 0, none⟩) N vc) (us.set 0 u') (ls.set 0 rs)) := fun u' W1 rs h1 h2 h3 => by
      have hb : Below w3.heap.size w3 (w3.alloc (.cells #[.int .i64 1] 3)) := (Below.refl _ _).alloc (Nat.le_refl _) _
      rw [← HU0.out] at h1 h3
      rw [← HN.out]
      exact (HG3.out.below hb).turn0 HL1.out.1 rfl rfl h1 h2 h3 rfl
    have HCB : Hid (∀ W1, (w3.alloc (.cells #[.int .i64 1] 3)).grownBy W1 (some b0) → (∃ y, W1.cell? ⟨bv, 0, none⟩ = some y) ∧ W1.frozen? ⟨bv, 0, none⟩ = false) := fun W1 hgr => by
      have hb : Below w3.heap.size w3 (w3.alloc (.cells #[.int .i64 1] 3)) := (Below.refl _ _).alloc (Nat.le_refl _) _
      have hrow : W1.ownsRow w1.heap.size 27 1 (.slice (some ⟨bv, 0, none⟩) us.length vc) us.length us := World.ownsRow.kept (HG3.out.below hb).row hgr (.inr fun e => by
        have h9 := HG3.out.ne 0 HL1.out.1 b0 (by rw [HU0.out]; rfl)
        exact h9 e)
      have := HNE.out
      exact ⟨⟨_, by rw [hrow.cellAt 0 (by omega), List.getElem?_eq_getElem HNE.out]⟩, hrow.frozenAt 0⟩
    obtain ⟨R0, hR0⟩ : ∃ R0, ls.getD 0 [] = R0 := ⟨_, rfl⟩
    rw [hR0] at hc0 HO HT0 HL1 HU0
    have HRL : Hid (R0.length ≤ 6) := HL1.out.2.2.2
    clear r0 hR0
    go_wp2_with (at_builtin; refine appN rfl (.tmp 19) (.tmp 20) rfl w1.heap.size _ R0 rfl (HO.out.alloc _) w3.heap.size 1 rfl (by simp) (by have := HRL.out; omega) (by have := HSZ.out; simp; omega) ?_)
    intro v6 w6 ho hg6 hb6
    have HG6 : Hid (Gq w1 (w6.setCell ⟨bv, 0, none⟩ v6) g v code (.slice (some ⟨bv, 0, none⟩) N vc) (us.set 0 v6) (ls.set 0 (R0 ++ [1]))) := HT0.out v6 w6 _ hg6 ho (by simpa using hb6)
    obtain ⟨⟨yy, hyy⟩, hzz⟩ := HCB.out w6 hg6
    obtain ⟨sa, sc, hv6, -⟩ := own_form ho
    subst hv6
    clear ho hg6 hb6 HO HT0 hc0 HCB
    obtain ⟨w7, hw7⟩ : ∃ W, w6.setCell ⟨bv, 0, none⟩ (.slice sa (R0 ++ [1]).length sc) = W := ⟨_, rfl⟩
    rw [hw7] at HG6
    have HW7 : Hid (w6.setCell ⟨bv, 0, none⟩ (.slice sa (R0 ++ [1]).length sc) = w7) := hw7
    clear hw7
    obtain ⟨sl, hsl⟩ : ∃ s, (R0 ++ [1]).length = s := ⟨_, rfl⟩
    rw [hsl] at HW7 ⊢
    clear hsl
    go_wp2_with (fail)
    rw [HW7.out]
    have HZ7 : Hid (w7.heap.size = w6.heap.size) := by show _ = _; rw [← HW7.out]; simp
    clear HW7 hyy hzz
    obtain ⟨WL1, hWL⟩ : ∃ W, w7.alloc (Obj.cells #[.int .i64 1, .int .i64 10, .int .i64 1000, .int .i64 1001, .int .i64 0, .int .i64 50] 3) = W := ⟨_, rfl⟩
    have ba : Below w7.heap.size w7 WL1 := by rw [← hWL]; exact (Below.refl _ _).alloc (Nat.le_refl _) _
    have HLR : Hid (Rd .i64 WL1 (.slice (some ⟨w7.heap.size, 0, none⟩) 6 6) [1, 10, 1000, 1001, 0, 50]) := by rw [← hWL]; exact Rd.lit w7 [1, 10, 1000, 1001, 0, 50] (by decide)
    have HLN : Hid (g < w7.heap.size) := HG6.out.dc.dr.lt
    have HGl : Hid (Gq w1 WL1 g v code (.slice (some ⟨bv, 0, none⟩) N vc) _ _) := HG6.out.below ba
    have HWL : Hid (w7.alloc (Obj.cells #[.int .i64 1, .int .i64 10, .int .i64 1000, .int .i64 1001, .int .i64 0, .int .i64 50] 3) = WL1) := hWL
    clear ba hWL HG6
    rw [HZ7.out] at HLR HLN
    rw [HWL.out]
    refine (pickInt_c g v code _ [1, 10, 1000, 1001, 0, 50] _ HGl.out.dc.dr HLR.out (.inr (by have := HLN.out; simp [Value.ownBlock]; omega)) (by decide) (by decide)).mono ?_
    rintro e x1 ⟨k1, rfl, hk1, d1, g1⟩
    have HG6 : Hid (Gq w1 x1 g v code (.slice (some ⟨bv, 0, none⟩) N vc) _ _) := HGl.out.draw d1 g1
    clear d1 g1 HGl HLR HWL HLN
    obtain ⟨WL2, hWL⟩ : ∃ W, x1.alloc (Obj.cells #[.int .i64 1, .int .i64 2, .int .i64 5, .int .i64 100, .int .i64 101, .int .i64 0, .int .i64 3] 3) = W := ⟨_, rfl⟩
    have ba : Below x1.heap.size x1 WL2 := by rw [← hWL]; exact (Below.refl _ _).alloc (Nat.le_refl _) _
    have HLR : Hid (Rd .i64 WL2 (.slice (some ⟨x1.heap.size, 0, none⟩) 7 7) [1, 2, 5, 100, 101, 0, 3]) := by rw [← hWL]; exact Rd.lit x1 [1, 2, 5, 100, 101, 0, 3] (by decide)
    have HLN : Hid (g < x1.heap.size) := HG6.out.dc.dr.lt
    have HGl : Hid (Gq w1 WL2 g v code (.slice (some ⟨bv, 0, none⟩) N vc) _ _) := HG6.out.below ba
    have HWL : Hid (x1.alloc (Obj.cells #[.int .i64 1, .int .i64 2, .int .i64 5, .int .i64 100, .int .i64 101, .int .i64 0, .int .i64 3] 3) = WL2) := hWL
    clear ba hWL HG6
    go_wp2_with (fail)
    rw [HWL.out]
    refine (pickInt_c g v code _ [1, 2, 5, 100, 101, 0, 3] _ HGl.out.dc.dr HLR.out (.inr (by have := HLN.out; simp [Value.ownBlock]; omega)) (by decide) (by decide)).mono ?_
    rintro e x2 ⟨k2, rfl, hk2, d1, g1⟩
    have HG6 : Hid (Gq w1 x2 g v code (.slice (some ⟨bv, 0, none⟩) N vc) _ _) := HGl.out.draw d1 g1
    clear d1 g1 HGl HLR HWL HLN
    obtain ⟨WL3, hWL⟩ : ∃ W, x2.alloc (Obj.cells #[.int .i64 0, .int .i64 1, .int .i64 2, .int .i64 10, .int .i64 50, .int .i64 51, .int .i64 (-1), .int .i64 4] 3) = W := ⟨_, rfl⟩
    have ba : Below x2.heap.size x2 WL3 := by rw [← hWL]; exact (Below.refl _ _).alloc (Nat.le_refl _) _
    have HLR : Hid (Rd .i64 WL3 (.slice (some ⟨x2.heap.size, 0, none⟩) 8 8) [0, 1, 2, 10, 50, 51, -1, 4]) := by rw [← hWL]; exact Rd.lit x2 [0, 1, 2, 10, 50, 51, -1, 4] (by decide)
    have HLN : Hid (g < x2.heap.size) := HG6.out.dc.dr.lt
    have HGl : Hid (Gq w1 WL3 g v code (.slice (some ⟨bv, 0, none⟩) N vc) _ _) := HG6.out.below ba
    have HWL : Hid (x2.alloc (Obj.cells #[.int .i64 0, .int .i64 1, .int .i64 2, .int .i64 10, .int .i64 50, .int .i64 51, .int .i64 (-1), .int .i64 4] 3) = WL3) := hWL
    clear ba hWL HG6
    go_wp2_with (fail)
    rw [HWL.out]
    refine (pickInt_c g v code _ [0, 1, 2, 10, 50, 51, -1, 4] _ HGl.out.dc.dr HLR.out (.inr (by have := HLN.out; simp [Value.ownBlock]; omega)) (by decide) (by decide)).mono ?_
    rintro e x3 ⟨k3, rfl, hk3, d1, g1⟩
    have HG6 : Hid (Gq w1 x3 g v code (.slice (some ⟨bv, 0, none⟩) N vc) _ _) := HGl.out.draw d1 g1
    clear d1 g1 HGl HLR HWL HLN
    have htb : -1 ≤ k3 ∧ k3 ≤ 51 := by
      obtain ⟨k, hk, rfl⟩ := hk3
      rcases (show k = 0 ∨ k = 1 ∨ k = 2 ∨ k = 3 ∨ k = 4 ∨ k = 5 ∨ k = 6 ∨ k = 7 by simp at hk; omega) with rfl | rfl | rfl | rfl | rfl | rfl | rfl | rfl <;> simp
    have HR9 : Hid (Rn x3 (.slice (some ⟨bv, 0, none⟩) N vc) _) := HG6.out.rd
    have HB9 : Hid (Below w.heap.size w x3) := HG6.out.dc.ahead HB.out.1 HB.out.2
    clear HG6 hk1 hk2 hk3
    go_wp2
    exact bodyPost_ret (results_tmp4 rfl _ _ _) rfl ⟨_, _, _, _, _, rfl, HR9.out, htb, HB9.out⟩
  case neg =>
  by_cases hr1 : r = 1
  case pos =>
    subst hr1
    have HRL : Hid (1 ≤ (ls.getD 0 []).length ∧ (ls.getD 0 []).length ≤ 6) := HL1.out.2.2
    obtain ⟨RL, hRL⟩ : ∃ R, (ls.getD 0 []).length = R := ⟨_, rfl⟩
    have HRE : Hid ((ls.getD 0 []).length = RL) := hRL
    rw [hRL] at HU0 HRL
    have hRL1 := HRL.out.1
    clear hr r0 hRL
    obtain ⟨S, hS⟩ : ∃ S : World → Prop, S = fun W' => W'.cell? ⟨bv, 0, none⟩ = some (.slice (some ⟨b0, 0, none⟩) RL uc) := ⟨_, rfl⟩
    have HSF : Hid (∀ W', S W' → W'.cell? ⟨bv, 0, none⟩ = some (.slice (some ⟨b0, 0, none⟩) RL uc)) := fun W' h => by rw [hS] at h; exact h
    have HSG : Hid (∀ W', W'.cell? ⟨bv, 0, none⟩ = some (.slice (some ⟨b0, 0, none⟩) RL uc) → S W') := fun W' h => by rw [hS]; exact h
    have HSD : Hid (S w3.drew) := HSG.out _ (by have := HC0.out; rw [HU0.out] at this; exact this)
    have y0 : ∀ V : At S, V.wd.cell? ⟨bv, 0, none⟩ = some (.slice (some ⟨b0, 0, none⟩) RL uc) := fun V => HSF.out _ V.ok
    have ne : Nonempty (At S) := ⟨⟨_, HSD.out⟩⟩
    have HSC : Hid (∀ W, Gd w1 W g v code (.slice (some ⟨bv, 0, none⟩) N vc) us ls → S W) := fun W h => HSG.out _ (by
      have := HNE.out
      rw [← HN.out] at h
      rw [World.ownsRow.cellAt h.row 0 (by omega), List.getElem?_eq_getElem HNE.out]
      have h9 := HU0.out
      rw [List.getD_eq_getElem?_getD, List.getElem?_eq_getElem HNE.out] at h9
      simp at h9; rw [h9])
    have hNi : (0 : Int) < (N : Int) := by omega
    clear hS
    go_wp2
    refine region_mixT [true, true, true, true, false, false, false, false] 6 2 S (by kernel_rfl) rfl (by kernel_rfl) (fun _ _ _ _ _ h => h) HSD.out ?_
    simp only [selT, selF]
    try simp only [Act.put]
    repeat (go_big_quiet_step (fail))
    refine wpQuiet_nil ?_
    have HG4 : Hid (Gd w1 w3.drew g v code (.slice (some ⟨bv, 0, none⟩) N vc) us ls) := by rw [← HN.out]; exact HG3.out.below (Below.refl _ _).drew
    obtain ⟨V, hV⟩ : ∃ V, w3.drew = V := ⟨_, rfl⟩
    rw [hV] at HG4 ⊢
    clear hV y0 ne HG3 HC0 HFZ HSD
    obtain ⟨WL, hWL⟩ : ∃ W, V.alloc (Obj.cells #[.int .i64 0, .int .i64 1, .int .i64 1000, .int .i64 1001] 3) = W := ⟨_, rfl⟩
    have ba : Below V.heap.size V WL := by rw [← hWL]; exact (Below.refl _ _).alloc (Nat.le_refl _) _
    have HLR : Hid (Rd .i64 WL (.slice (some ⟨V.heap.size, 0, none⟩) 4 4) [0, 1, 1000, 1001]) := by rw [← hWL]; exact Rd.lit V [0, 1, 1000, 1001] (by decide)
    have HLN : Hid (g < V.heap.size) := HG4.out.dc.dr.lt
    have HG5 : Hid (Gd w1 WL g v code (.slice (some ⟨bv, 0, none⟩) N vc) us ls) := HG4.out.below ba
    have HWL : Hid (V.alloc (Obj.cells #[.int .i64 0, .int .i64 1, .int .i64 1000, .int .i64 1001] 3) = WL) := hWL
    clear ba hWL HG4
    refine tail_step ?_
    go_wp2
    rw [HWL.out]
    refine ⟨HSC.out _ HG5.out, tail_step ?_⟩
    go_wp2_with (fail)
    refine (pickInt_c g v code _ [0, 1, 1000, 1001] _ HG5.out.dc.dr HLR.out (.inr (by have := HLN.out; simp [Value.ownBlock]; omega)) (by decide) (by decide)).mono ?_
    rintro e w6 ⟨x, rfl, -, d1, g1⟩
    have HG6' : Hid (Gd w1 w6 g v code (.slice (some ⟨bv, 0, none⟩) N vc) us ls) := HG5.out.draw d1 g1
    have HS6 : Hid (S w6) := HSC.out _ HG6'.out
    clear d1 g1 HLR HWL HLN HG5
    have HG6 : Hid (Gq w1 (w6.setCell ⟨b0, 0, none⟩ (.int .i64 x)) g v code (.slice (some ⟨bv, 0, none⟩) N vc) us (ls.set 0 ((ls.getD 0 []).set 0 x))) := by
      have h9 := HU0.out
      rw [← HRE.out] at h9
      exact HG6'.out.cell0 HL1.out.1 h9 rfl
    have hOO : w6.ownsRow w1.heap.size 3 1 (.slice (some ⟨b0, 0, none⟩) RL uc) RL ((ls.getD 0 []).map (Value.int .i64)) := by
      have h9 := HG6'.out.own 0 HL1.out.1
      rw [HU0.out, Ow, HRE.out] at h9; exact h9
    obtain ⟨yy, hyy⟩ : ∃ y, w6.cell? ⟨b0, 0, none⟩ = some y := ⟨_, by rw [hOO.cellAt 0 (by omega)]; exact List.getElem?_eq_getElem (by rw [List.length_map, HRE.out]; omega)⟩
    have hzz : w6.frozen? ⟨b0, 0, none⟩ = false := hOO.frozenAt 0
    clear hOO HG6'
    go_wp2
    refine ⟨HS6.out, tail_end ?_⟩
    obtain ⟨w7, hw7⟩ : ∃ W, w6.setCell ⟨b0, 0, none⟩ (.int .i64 x) = W := ⟨_, rfl⟩
    rw [hw7] at HG6
    have HW7 : Hid (w6.setCell ⟨b0, 0, none⟩ (.int .i64 x) = w7) := hw7
    clear hw7 HS6 HSC HSF HSG
    go_wp2_with (fail)
    rw [HW7.out]
    have HZ7 : Hid (w7.heap.size = w6.heap.size) := by show _ = _; rw [← HW7.out]; simp
    clear HW7 hyy hzz
    obtain ⟨WL1, hWL⟩ : ∃ W, w7.alloc (Obj.cells #[.int .i64 1, .int .i64 10, .int .i64 1000, .int .i64 1001, .int .i64 0, .int .i64 50] 3) = W := ⟨_, rfl⟩
    have ba : Below w7.heap.size w7 WL1 := by rw [← hWL]; exact (Below.refl _ _).alloc (Nat.le_refl _) _
    have HLR : Hid (Rd .i64 WL1 (.slice (some ⟨w7.heap.size, 0, none⟩) 6 6) [1, 10, 1000, 1001, 0, 50]) := by rw [← hWL]; exact Rd.lit w7 [1, 10, 1000, 1001, 0, 50] (by decide)
    have HLN : Hid (g < w7.heap.size) := HG6.out.dc.dr.lt
    have HGl : Hid (Gq w1 WL1 g v code (.slice (some ⟨bv, 0, none⟩) N vc) _ _) := HG6.out.below ba
    have HWL : Hid (w7.alloc (Obj.cells #[.int .i64 1, .int .i64 10, .int .i64 1000, .int .i64 1001, .int .i64 0, .int .i64 50] 3) = WL1) := hWL
    clear ba hWL HG6
    rw [HZ7.out] at HLR HLN
    rw [HWL.out]
    refine (pickInt_c g v code _ [1, 10, 1000, 1001, 0, 50] _ HGl.out.dc.dr HLR.out (.inr (by have := HLN.out; simp [Value.ownBlock]; omega)) (by decide) (by decide)).mono ?_
    rintro e x1 ⟨k1, rfl, hk1, d1, g1⟩
    have HG6 : Hid (Gq w1 x1 g v code (.slice (some ⟨bv, 0, none⟩) N vc) _ _) := HGl.out.draw d1 g1
    clear d1 g1 HGl HLR HWL HLN
    obtain ⟨WL2, hWL⟩ : ∃ W, x1.alloc (Obj.cells #[.int .i64 1, .int .i64 2, .int .i64 5, .int .i64 100, .int .i64 101, .int .i64 0, .int .i64 3] 3) = W := ⟨_, rfl⟩
    have ba : Below x1.heap.size x1 WL2 := by rw [← hWL]; exact (Below.refl _ _).alloc (Nat.le_refl _) _
    have HLR : Hid (Rd .i64 WL2 (.slice (some ⟨x1.heap.size, 0, none⟩) 7 7) [1, 2, 5, 100, 101, 0, 3]) := by rw [← hWL]; exact Rd.lit x1 [1, 2, 5, 100, 101, 0, 3] (by decide)
    have HLN : Hid (g < x1.heap.size) := HG6.out.dc.dr.lt
    have HGl : Hid (Gq w1 WL2 g v code (.slice (some ⟨bv, 0, none⟩) N vc) _ _) := HG6.out.below ba
    have HWL : Hid (x1.alloc (Obj.cells #[.int .i64 1, .int .i64 2, .int .i64 5, .int .i64 100, .int .i64 101, .int .i64 0, .int .i64 3] 3) = WL2) := hWL
    clear ba hWL HG6
    go_wp2_with (fail)
    rw [HWL.out]
    refine (pickInt_c g v code _ [1, 2, 5, 100, 101, 0, 3] _ HGl.out.dc.dr HLR.out (.inr (by have := HLN.out; simp [Value.ownBlock]; omega)) (by decide) (by decide)).mono ?_
    rintro e x2 ⟨k2, rfl, hk2, d1, g1⟩
    have HG6 : Hid (Gq w1 x2 g v code (.slice (some ⟨bv, 0, none⟩) N vc) _ _) := HGl.out.draw d1 g1
    clear d1 g1 HGl HLR HWL HLN
    obtain ⟨WL3, hWL⟩ : ∃ W, x2.alloc (Obj.cells #[.int .i64 0, .int .i64 1, .int .i64 2, .int .i64 10, .int .i64 50, .int .i64 51, .int .i64 (-1), .int .i64 4] 3) = W := ⟨_, rfl⟩
    have ba : Below x2.heap.size x2 WL3 := by rw [← hWL]; exact (Below.refl _ _).alloc (Nat.le_refl _) _
    have HLR : Hid (Rd .i64 WL3 (.slice (some ⟨x2.heap.size, 0, none⟩) 8 8) [0, 1, 2, 10, 50, 51, -1, 4]) := by rw [← hWL]; exact Rd.lit x2 [0, 1, 2, 10, 50, 51, -1, 4] (by decide)
    have HLN : Hid (g < x2.heap.size) := HG6.out.dc.dr.lt
    have HGl : Hid (Gq w1 WL3 g v code (.slice (some ⟨bv, 0, none⟩) N vc) _ _) := HG6.out.below ba
    have HWL : Hid (x2.alloc (Obj.cells #[.int .i64 0, .int .i64 1, .int .i64 2, .int .i64 10, .int .i64 50, .int .i64 51, .int .i64 (-1), .int .i64 4] 3) = WL3) := hWL
    clear ba hWL HG6
    go_wp2_with (fail)
    rw [HWL.out]
    refine (pickInt_c g v code _ [0, 1, 2, 10, 50, 51, -1, 4] _ HGl.out.dc.dr HLR.out (.inr (by have := HLN.out; simp [Value.ownBlock]; omega)) (by decide) (by decide)).mono ?_
    rintro e x3 ⟨k3, rfl, hk3, d1, g1⟩
    have HG6 : Hid (Gq w1 x3 g v code (.slice (some ⟨bv, 0, none⟩) N vc) _ _) := HGl.out.draw d1 g1
    clear d1 g1 HGl HLR HWL HLN
    have htb : -1 ≤ k3 ∧ k3 ≤ 51 := by
      obtain ⟨k, hk, rfl⟩ := hk3
      rcases (show k = 0 ∨ k = 1 ∨ k = 2 ∨ k = 3 ∨ k = 4 ∨ k = 5 ∨ k = 6 ∨ k = 7 by simp at hk; omega) with rfl | rfl | rfl | rfl | rfl | rfl | rfl | rfl <;> simp
    have HR9 : Hid (Rn x3 (.slice (some ⟨bv, 0, none⟩) N vc) _) := HG6.out.rd
    have HB9 : Hid (Below w.heap.size w x3) := HG6.out.dc.ahead HB.out.1 HB.out.2
    clear HG6 hk1 hk2 hk3
    go_wp2
    exact bodyPost_ret (results_tmp4 rfl _ _ _) rfl ⟨_, _, _, _, _, rfl, HR9.out, htb, HB9.out⟩
  case neg =>
  have HG6 : Hid (Gq w1 w3 g v code (.slice (some ⟨bv, 0, none⟩) N vc) us ls) := by rw [← HN.out]; exact HG3.out.gq
  have hr0' : (r == 0) = false := by simpa using hr
  have hr1' : (r == 1) = false := by simpa using hr1
  clear HG3 r0 HC0 HFZ
  obtain ⟨WL1, hWL⟩ : ∃ W, w3.alloc (Obj.cells #[.int .i64 1, .int .i64 10, .int .i64 1000, .int .i64 1001, .int .i64 0, .int .i64 50] 3) = W := ⟨_, rfl⟩
  have ba : Below w3.heap.size w3 WL1 := by rw [← hWL]; exact (Below.refl _ _).alloc (Nat.le_refl _) _
  have HLR : Hid (Rd .i64 WL1 (.slice (some ⟨w3.heap.size, 0, none⟩) 6 6) [1, 10, 1000, 1001, 0, 50]) := by rw [← hWL]; exact Rd.lit w3 [1, 10, 1000, 1001, 0, 50] (by decide)
  have HLN : Hid (g < w3.heap.size) := HG6.out.dc.dr.lt
  have HGl : Hid (Gq w1 WL1 g v code (.slice (some ⟨bv, 0, none⟩) N vc) _ _) := HG6.out.below ba
  have HWL : Hid (w3.alloc (Obj.cells #[.int .i64 1, .int .i64 10, .int .i64 1000, .int .i64 1001, .int .i64 0, .int .i64 50] 3) = WL1) := hWL
  clear ba hWL HG6
  go_wp2_with (fail)
  rw [HWL.out]
  refine (pickInt_c g v code _ [1, 10, 1000, 1001, 0, 50] _ HGl.out.dc.dr HLR.out (.inr (by have := HLN.out; simp [Value.ownBlock]; omega)) (by decide) (by decide)).mono ?_
  rintro e x1 ⟨k1, rfl, hk1, d1, g1⟩
  have HG6 : Hid (Gq w1 x1 g v code (.slice (some ⟨bv, 0, none⟩) N vc) _ _) := HGl.out.draw d1 g1
  clear d1 g1 HGl HLR HWL HLN
  obtain ⟨WL2, hWL⟩ : ∃ W, x1.alloc (Obj.cells #[.int .i64 1, .int .i64 2, .int .i64 5, .int .i64 100, .int .i64 101, .int .i64 0, .int .i64 3] 3) = W := ⟨_, rfl⟩
  have ba : Below x1.heap.size x1 WL2 := by rw [← hWL]; exact (Below.refl _ _).alloc (Nat.le_refl _) _
  have HLR : Hid (Rd .i64 WL2 (.slice (some ⟨x1.heap.size, 0, none⟩) 7 7) [1, 2, 5, 100, 101, 0, 3]) := by rw [← hWL]; exact Rd.lit x1 [1, 2, 5, 100, 101, 0, 3] (by decide)
  have HLN : Hid (g < x1.heap.size) := HG6.out.dc.dr.lt
  have HGl : Hid (Gq w1 WL2 g v code (.slice (some ⟨bv, 0, none⟩) N vc) _ _) := HG6.out.below ba
  have HWL : Hid (x1.alloc (Obj.cells #[.int .i64 1, .int .i64 2, .int .i64 5, .int .i64 100, .int .i64 101, .int .i64 0, .int .i64 3] 3) = WL2) := hWL
  clear ba hWL HG6
  go_wp2_with (fail)
  rw [HWL.out]
  refine (pickInt_c g v code _ [1, 2, 5, 100, 101, 0, 3] _ HGl.out.dc.dr HLR.out (.inr (by have := HLN.out; simp [Value.ownBlock]; omega)) (by decide) (by decide)).mono ?_
  rintro e x2 ⟨k2, rfl, hk2, d1, g1⟩
  have HG6 : Hid (Gq w1 x2 g v code (.slice (some ⟨bv, 0, none⟩) N vc) _ _) := HGl.out.draw d1 g1
  clear d1 g1 HGl HLR HWL HLN
  obtain ⟨WL3, hWL⟩ : ∃ W, x2.alloc (Obj.cells #[.int .i64 0, .int .i64 1, .int .i64 2, .int .i64 10, .int .i64 50, .int .i64 51, .int .i64 (-1), .int .i64 4] 3) = W := ⟨_, rfl⟩
  have ba : Below x2.heap.size x2 WL3 := by rw [← hWL]; exact (Below.refl _ _).alloc (Nat.le_refl _) _
  have HLR : Hid (Rd .i64 WL3 (.slice (some ⟨x2.heap.size, 0, none⟩) 8 8) [0, 1, 2, 10, 50, 51, -1, 4]) := by rw [← hWL]; exact Rd.lit x2 [0, 1, 2, 10, 50, 51, -1, 4] (by decide)
  have HLN : Hid (g < x2.heap.size) := HG6.out.dc.dr.lt
  have HGl : Hid (Gq w1 WL3 g v code (.slice (some ⟨bv, 0, none⟩) N vc) _ _) := HG6.out.below ba
  have HWL : Hid (x2.alloc (Obj.cells #[.int .i64 0, .int .i64 1, .int .i64 2, .int .i64 10, .int .i64 50, .int .i64 51, .int .i64 (-1), .int .i64 4] 3) = WL3) := hWL
  clear ba hWL HG6
  go_wp2_with (fail)
  rw [HWL.out]
  refine (pickInt_c g v code _ [0, 1, 2, 10, 50, 51, -1, 4] _ HGl.out.dc.dr HLR.out (.inr (by have := HLN.out; simp [Value.ownBlock]; omega)) (by decide) (by decide)).mono ?_
  rintro e x3 ⟨k3, rfl, hk3, d1, g1⟩
  have HG6 : Hid (Gq w1 x3 g v code (.slice (some ⟨bv, 0, none⟩) N vc) _ _) := HGl.out.draw d1 g1
  clear d1 g1 HGl HLR HWL HLN
  have htb : -1 ≤ k3 ∧ k3 ≤ 51 := by
    obtain ⟨k, hk, rfl⟩ := hk3
    rcases (show k = 0 ∨ k = 1 ∨ k = 2 ∨ k = 3 ∨ k = 4 ∨ k = 5 ∨ k = 6 ∨ k = 7 by simp at hk; omega) with rfl | rfl | rfl | rfl | rfl | rfl | rfl | rfl <;> simp
  have HR9 : Hid (Rn x3 (.slice (some ⟨bv, 0, none⟩) N vc) _) := HG6.out.rd
  have HB9 : Hid (Below w.heap.size w x3) := HG6.out.dc.ahead HB.out.1 HB.out.2
  clear HG6 hk1 hk2 hk3
  go_wp2
  exact bodyPost_ret (results_tmp4 rfl _ _ _) rfl ⟨_, _, _, _, _, rfl, HR9.out, htb, HB9.out⟩

end Go.Proofs.Ytikgempdohpdjaa
