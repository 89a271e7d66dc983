/- The contract of the program's function that tells whom a line hears; no condition. -/
import Derived.Test.YtcbeaimpmjljjaaOne
namespace Go.Proofs.Ytcbeaimpmjljjaa
open Go.RowKit Go.ChangeShapes Go.WideShapes Go.ChangeAt
set_option linter.unusedVariables false
set_option linter.unusedSimpArgs false
set_option maxRecDepth 8000
/-- the other legs that are not held, their lines -/
def others (l : Int) (ls : Legs2) : List Int := (ls.filter fun x => !(x.1 == l) && !x.2).map (·.1)
/-- whether a line's leg is held -/
def heldAt (ls : Legs2) (l : Int) : Bool := match legAt ls l with | some k => (ls.getD k (0, false)).2 | none => false
/-- the lines that a line hears, in the order of the legs -/
def hears (cs : Calls2) (l : Int) : List Int := match callAt cs l with
  | none => []
  | some i => if (cs.getD i (false, [])).1 || heldAt (cs.getD i (false, [])).2 l then [] else others l (cs.getD i (false, [])).2
theorem others_snoc (l : Int) (ls : Legs2) (j : Nat) (h : j < ls.length) : others l (ls.take (j + 1)) = others l (ls.take j) ++ (if !(ls[j].1 == l) && !ls[j].2 then [ls[j].1] else []) := by
  rw [others, others, List.take_succ_eq_append_getElem h, List.filter_append, List.map_append]
  congr 1
  simp [List.filter_cons]
  split <;> simp_all
theorem others_len (l : Int) (ls : Legs2) (j : Nat) : (others l (ls.take j)).length ≤ j := by
  have h1 : (others l (ls.take j)).length ≤ (ls.take j).length := by rw [others, List.length_map]; exact List.length_filter_le _ _
  have h2 : (ls.take j).length ≤ j := by simp; omega
  omega
abbrev chv (chs : List Nat) (l : Int) : Value := .chan (some (chs.getD l.toNat 0))
def HearR (chs : List Nat) (cs : Calls2) (l : Int) (w : World) (e : Ending) (w' : World) : Prop :=
  ∃ v', e = .returned v' ∧ w'.ownsRow w.heap.size 98 1 v' (hears cs l).length ((hears cs l).map (chv chs)) ∧ Below w.heap.size w w'
set_option maxHeartbeats 1600000 in
theorem heardBy_c {base : Nat} {ρ : Nat → Tag} {chs : List Nat} {w : World} {g : Nat} {ps : List Nat} {cs : Calls2} (h : Wr base ρ chs w g ps cs) (hlen : ∀ c ∈ cs, c.2.length ≤ 8) (l : Int) (h0 : 0 ≤ l ∧ l < chs.length) :
    Calls Try.prog 65 #[ptr g, chv chs l] w (HearR chs cs l w) := by
  obtain ⟨q, hq⟩ : ∃ q, chs.getD l.toNat 0 = q := ⟨_, rfl⟩
  have HCO : Hid (Calls Try.prog 64 #[ptr g, .chan (some q)] w fun e w' => e = .returned (cptr ps (callAt cs l)) ∧ Below w.heap.size w w') := by rw [← hq]; exact callOf_c h l h0
  have HWr : Hid (Wr base ρ chs w g ps cs) := h
  show Calls Try.prog 65 #[ptr g, .chan (some (chs.getD l.toNat 0))] w (HearR chs cs l w)
  rw [hq]
  have HQ : Hid (chs.getD l.toNat 0 = q) := hq
  clear h hq
  cases hca : callAt cs l with
  | none =>
    have HN : Hid (hears cs l = []) := (by simp [hears, hca] : hears cs l = [])
    have HC2 : Hid (Calls Try.prog 64 #[ptr g, .chan (some q)] w fun e w' => e = .returned (.pointer none) ∧ Below w.heap.size w w') := by have := HCO.out; rw [hca] at this; exact this
    clear HCO hca
    go_enter Try.func65, Try.ntmps65
    go_wp2_with (fail)
    refine HC2.out.mono ?_
    rintro e w2 ⟨rfl, b2⟩
    have HB2 : Hid (Below w.heap.size w w2) := b2
    have ne1 : Nonempty (Ov w2) := ⟨⟨_, Below.refl _ _⟩⟩
    clear b2 HC2
    go_wp2
    refine region_over (by kernel_rfl) (by kernel_rfl) ?_
    repeat (go_big_quiet_step (fail))
    refine wpQuiet_nil ?_
    rintro _ ⟨W, rfl⟩
    go_wp2
    go_ret
    refine ⟨_, rfl, ?_, belowCall HB2.out W.ok HB2.out.size⟩
    rw [HN.out]
    exact World.ownsRow_nil _ _ _ _
  | some i =>
    obtain ⟨i1, i2, i3, i4⟩ := HWr.out.callBlk hca
    have hlin := HWr.out.lines _ (List.getElem_mem i2)
    have h8 := hlen _ (List.getElem_mem i2)
    obtain ⟨c, hc⟩ : ∃ c, cs[i] = c := ⟨_, rfl⟩
    obtain ⟨x, hx⟩ : ∃ x, ps[i] = x := ⟨_, rfl⟩
    rw [hc] at i4 hlin h8
    rw [hx] at i4
    have hhe : hears cs l = if c.1 || heldAt c.2 l then [] else others l c.2 := by
      have : cs.getD i (false, []) = c := by simp [List.getElem?_eq_getElem i2, hc]
      simp only [hears, hca, this]
    have HHE : Hid (hears cs l = if c.1 || heldAt c.2 l then [] else others l c.2) := hhe
    have HC2 : Hid (Calls Try.prog 64 #[ptr g, .chan (some q)] w fun e w' => e = .returned (.pointer (some ⟨x, 0, none⟩)) ∧ Below w.heap.size w w') := by
      have := HCO.out
      rw [hca] at this
      simp only [cptr, i3, hx] at this
      exact this
    obtain ⟨k, hk⟩ : ∃ k, legAt c.2 l = some k := by
      rw [callAt, List.findIdx?_eq_some_iff_getElem] at hca
      obtain ⟨_, h1, _⟩ := hca
      rw [hc] at h1
      exact Option.isSome_iff_exists.1 h1
    obtain ⟨hkl, hke⟩ := legAt_some hk
    have hpl : plc c.2 l = (k : Int) := by rw [plc, hk]
    obtain ⟨hd, hhd⟩ : ∃ hd, c.2[k].2 = hd := ⟨_, rfl⟩
    have HHD : Hid (heldAt c.2 l = hd) := by
      show heldAt c.2 l = hd
      rw [heldAt, hk]; simp [List.getElem?_eq_getElem hkl, hhd]
    have HCL : Hid (WCall base ρ chs w x c ∧ (∀ y ∈ c.2, 0 ≤ y.1 ∧ y.1 < chs.length)) := ⟨i4, hlin⟩
    obtain ⟨lv, LB, -, -, LO, -⟩ := i4
    obtain ⟨al, cl, rfl, v1, v2, v3⟩ := own_form LO
    rcases v3 with v3 | ⟨bl, rfl⟩
    · omega
    have cx0 : w.cell? ⟨x, 0, none⟩ = some (.bool c.1) := by have := LB.cell 0; simpa using this
    have cx1 : w.cell? ⟨x, 1, none⟩ = some (.slice (some ⟨bl, 0, none⟩) c.2.length cl) := by have := LB.cell 1; simpa using this
    have hleg : ∀ t (h : t < c.2.length), w.cell? ⟨bl, t * 2, none⟩ = some (.chan (some (chs.getD c.2[t].1.toNat 0))) ∧ w.cell? ⟨bl, t * 2 + 1, none⟩ = some (.bool c.2[t].2) := by
      intro t ht
      have hp := pr_at (wl chs) lg c.2 t ht
      exact ⟨(World.ownsRow.cellAt LO (t * 2) (by omega)).trans hp.1, (World.ownsRow.cellAt LO (t * 2 + 1) (by omega)).trans hp.2⟩
    have HLEG : Hid (∀ t (h : t < c.2.length), w.cell? ⟨bl, t * 2, none⟩ = some (.chan (some (chs.getD c.2[t].1.toNat 0))) ∧ w.cell? ⟨bl, t * 2 + 1, none⟩ = some (.bool c.2[t].2)) := hleg
    have chd : w.cell? ⟨bl, k * 2 + 1, none⟩ = some (.bool hd) := by rw [← hhd]; exact (hleg k hkl).2
    have hxl := LB.lt
    have hbl : bl < w.heap.size := block_lt_of_cell chd
    have hki : (k : Int) < (c.2.length : Int) := by omega
    clear HCO hca hc hx i3 hhe hk hke hhd LB LO hleg
    obtain ⟨pk, hpk⟩ : ∃ pk, c.1 = pk := ⟨_, rfl⟩
    rw [hpk] at cx0
    have HPK : Hid (c.1 = pk) := hpk
    go_enter Try.func65, Try.ntmps65
    go_wp2_with (fail)
    refine HC2.out.mono ?_
    rintro e w2 ⟨rfl, b2⟩
    have HB2 : Hid (Below w.heap.size w w2) := b2
    have ne1 : Nonempty (Ov w2) := ⟨⟨_, Below.refl _ _⟩⟩
    have z0 : ∀ W : Ov w2, W.wd.cell? ⟨x, 0, none⟩ = some (.bool pk) := ov_cell ((b2.cell hxl).trans cx0)
    have z1 : ∀ W : Ov w2, W.wd.cell? ⟨x, 1, none⟩ = some (.slice (some ⟨bl, 0, none⟩) c.2.length cl) := ov_cell ((b2.cell hxl).trans cx1)
    have z2 : ∀ W : Ov w2, W.wd.cell? ⟨bl, k * 2 + 1, none⟩ = some (.bool hd) := ov_cell ((b2.cell hbl).trans chd)
    have HPL : Hid (∀ W : Ov w2, Calls Try.prog 87 #[ptr x, .chan (some q)] W.wd fun e w'' => e = .returned (.int .i64 (k : Int)) ∧ ∃ W' : Ov w2, w'' = W'.wd) := fun W => by
      refine ov_call ?_
      rw [← HQ.out, ← hpl]
      refine place_c (base := base) (ρ := ρ) ?_ HWr.out.nod HCL.out.2 l h0
      exact (HCL.out.1.keeps (T := fun _ => False) (Keeps.ofBelow b2) (fun h => h) (fun h => h) (fun _ _ => rfl)).keeps (T := fun _ => False) (Keeps.ofBelow W.ok) (fun h => h) (fun h => h) (fun _ _ => rfl)
    clear b2 HC2 cx0 chd hpl hpk
    by_cases hno : pk = true ∨ hd = true
    · have HN : Hid (hears cs l = []) := by
        show hears cs l = []
        rw [HHE.out, HPK.out, HHD.out]
        rcases hno with h | h <;> simp [h]
      cases pk with
      | true =>
        clear hno
        go_wp2
        refine region_over (by kernel_rfl) (by kernel_rfl) ?_
        repeat (go_big_quiet_step (fail))
        refine wpQuiet_nil ?_
        rintro _ ⟨W, rfl⟩
        go_wp2
        go_ret
        refine ⟨_, rfl, ?_, belowCall HB2.out W.ok HB2.out.size⟩
        rw [HN.out]
        exact World.ownsRow_nil _ _ _ _
      | false =>
        obtain rfl : hd = true := by simpa using hno
        clear hno
        go_wp2
        refine region_over (by kernel_rfl) (by kernel_rfl) ?_
        repeat (go_big_quiet_step (first | (go_at_call 87; exact HPL.out _)))
        refine wpQuiet_nil ?_
        rintro _ ⟨W, rfl⟩
        go_wp2
        go_ret
        refine ⟨_, rfl, ?_, belowCall HB2.out W.ok HB2.out.size⟩
        rw [HN.out]
        exact World.ownsRow_nil _ _ _ _
    · obtain rfl : pk = false := by cases pk <;> simp_all
      obtain rfl : hd = false := by cases hd <;> simp_all
      clear hno
      go_wp2
      refine region_over (by kernel_rfl) (by kernel_rfl) ?_
      repeat (go_big_quiet_step (first | (go_at_call 87; exact HPL.out _)))
      refine wpQuiet_nil ?_
      rintro _ ⟨W, rfl⟩
      have Z1 := z1 W
      have HB3 : Hid (Below w.heap.size w W.wd) := belowCall HB2.out W.ok HB2.out.size
      obtain ⟨W3, hW3⟩ : ∃ W3, W.wd = W3 := ⟨_, rfl⟩
      rw [hW3] at Z1 HB3 ⊢
      clear z0 z1 z2 HPL hW3 ne1
      have hne := @neWop
      obtain ⟨i1, hi1, hy0, hy1, hy2⟩ := info_parts infoWi
      have HEQ : Hid (∀ t (h : t < c.2.length), chs.getD c.2[t].1.toNat 0 = q ↔ c.2[t].1 = l) := by
        intro t ht
        rw [← HQ.out]
        exact chan_iff HWr.out.nod (HCL.out.2 _ (List.getElem_mem ht)) h0
      have HFIN : Hid (hears cs l = others l c.2) := by
        show hears cs l = others l c.2
        rw [HHE.out, HPK.out, HHD.out]; simp
      have hsz0 := HB3.out.size
      clear HHE HPK HHD HQ HWr
      go_wp2
      go_loopw [6, 37] (fun fv i wr => ∃ j : Nat, j ≤ c.2.length ∧ i = .int .i64 j ∧ Hid (wr.ownsRow w.heap.size 98 1 fv (others l (c.2.take j)).length ((others l (c.2.take j)).map (chv chs))) ∧ Hid (Below w.heap.size w wr)) (fun _ i _ => c.2.length - (intOf i).toNat)
      case atStart => exact ⟨0, Nat.zero_le _, rfl, (by simp [others]; exact World.ownsRow_nil _ _ _ _), HB3.out⟩
      case round =>
        obtain ⟨j, hj, rfl, hO, hB⟩ := hrel
        clear HB3 Z1
        by_cases hlt : j < c.2.length
        · have hd := HLEG.out j hlt
          have hEQ := HEQ.out j hlt
          obtain ⟨ch, hch⟩ : ∃ ch, chs.getD c.2[j].1.toNat 0 = ch := ⟨_, rfl⟩
          obtain ⟨hy, hhy⟩ : ∃ hy, c.2[j].2 = hy := ⟨_, rfl⟩
          rw [hch, hhy] at hd
          rw [hch] at hEQ
          have d0 := (hB.out.cell hbl).trans hd.1
          have d1 := (hB.out.cell hbl).trans hd.2
          have hstep := others_snoc l c.2 j hlt
          rw [hhy] at hstep
          have HST : Hid (others l (c.2.take (j + 1)) = others l (c.2.take j) ++ (if !(c.2[j].1 == l) && !hy then [c.2[j].1] else [])) := hstep
          have HCH : Hid (chs.getD c.2[j].1.toNat 0 = ch) := hch
          have hol := others_len l c.2 j
          have hbs := hB.out.size
          clear hd hhy hch hstep HLEG HEQ
          have bel1 : Below wr.heap.size wr (wr.alloc (Obj.cells #[.chan (some ch), .bool hy] 128)) := (Below.refl _ _).alloc (Nat.le_refl _) _
          have HB1 : Hid (Below w.heap.size w (wr.alloc (Obj.cells #[.chan (some ch), .bool hy] 128))) := hB.out.trans (bel1.mono hbs)
          by_cases hsk : ch = q ∨ hy = true
          · have HS2 : Hid (others l (c.2.take (j + 1)) = others l (c.2.take j)) := by
              show others l (c.2.take (j + 1)) = others l (c.2.take j)
              rw [HST.out]
              have : (!(c.2[j].1 == l) && !hy) = false := by
                rcases hsk with h | h
                · simp [hEQ.1 h]
                · simp [h]
              simp [this]
            have HO1 : Hid ((wr.alloc (Obj.cells #[.chan (some ch), .bool hy] 128)).ownsRow w.heap.size 98 1 u6 (others l (c.2.take (j + 1))).length ((others l (c.2.take (j + 1))).map (chv chs))) := by
              have := World.ownsRow.alloc hO.out (Obj.cells #[.chan (some ch), .bool hy] 128)
              rw [← HS2.out] at this; exact this
            by_cases hcq : ch = q
            · subst hcq
              clear hsk hEQ
              go_wp2
              go_roundw
              case rel => exact ⟨j + 1, by omega, by go_num, HO1.out, HB1.out⟩
              case measure => simp [intOf]; omega
            · obtain rfl : hy = true := by rcases hsk with h | h; exact absurd h hcq; exact h
              clear hsk hEQ
              go_wp2
              go_roundw
              case rel => exact ⟨j + 1, by omega, by go_num, HO1.out, HB1.out⟩
              case measure => simp [intOf]; omega
          · have hcq : ¬ ch = q := fun h => hsk (.inl h)
            obtain rfl : hy = false := by cases hy <;> simp_all
            have HS2 : Hid (others l (c.2.take (j + 1)) = others l (c.2.take j) ++ [c.2[j].1]) := by
              show others l (c.2.take (j + 1)) = others l (c.2.take j) ++ [c.2[j].1]
              rw [HST.out]
              have : (!(c.2[j].1 == l) && !false) = true := by
                have hn : ¬ c.2[j].1 = l := fun h => hcq (hEQ.2 h)
                simp [hn]
              rw [if_pos this]
            have hcb : (ch == q) = false := by simp [hcq]
            have hcb2 : ((some ch : Option Nat) == some q) = false := by simp [hcq]
            clear hsk hEQ HST
            go_wp2_with (at_builtin; refine wpList_append_lies _ rfl _ _ 99 rfl w.heap.size 98 i1 (.chan none) 1 8 Try.underlying99 hi1 hy0 hy1 hy2 rfl (by decide) _ _ _ rfl ((hO.out.alloc _).alloc _) ⟨wr.heap.size + 1, 0, none⟩ 1 1 [.chan (some ch)] rfl rfl (World.news_of_block (Blk.newAt _ (wr.heap.size + 1) _ 98 (by simp))) (by intro u hu; simp at hu; subst hu; rfl) (by decide) (by unfold maxLen; omega) (by omega) (by simp; omega) (wr.heap.size + 2) (by simp) ?_)
            intro g1 cap1 w4 ho hgr hloc hlt1
            have HO4 : Hid (w4.ownsRow w.heap.size 98 1 (.slice (some ⟨g1, 0, none⟩) ((others l (c.2.take j)).length + 1) cap1) (others l (c.2.take (j + 1))).length ((others l (c.2.take (j + 1))).map (chv chs))) := by
              show w4.ownsRow w.heap.size 98 1 (.slice (some ⟨g1, 0, none⟩) ((others l (c.2.take j)).length + 1) cap1) (others l (c.2.take (j + 1))).length ((others l (c.2.take (j + 1))).map (chv chs))
              rw [HS2.out, List.map_append]
              have e : [c.2[j].1].map (chv chs) = [.chan (some ch)] := by
                show [Value.chan (some (chs.getD c.2[j].1.toNat 0))] = _
                rw [HCH.out]
              rw [e]
              simpa using ho
            have HB4 : Hid (Below w.heap.size w w4) := by
              have e1 : Below w.heap.size wr ((wr.alloc (Obj.cells #[.chan (some ch), .bool false] 128)).alloc (Obj.cells #[.chan (some ch)] 98)) := ((Below.refl _ _).alloc hbs _).alloc (by simp; omega) _
              exact hB.out.trans (e1.trans (grown_below hgr (by simp; omega) (fun k e => (World.ownsRow.lt hO.out k e).1)))
            clear ho hgr hloc hlt1
            go_wp2
            go_roundw
            case rel => exact ⟨j + 1, by omega, by go_num, HO4.out, HB4.out⟩
            case measure => simp [intOf]; omega
        · obtain rfl : j = c.2.length := by omega
          go_wp2
          go_ret
          refine ⟨_, rfl, ?_, hB.out⟩
          have := hO.out
          rw [List.take_length] at this
          rw [HFIN.out]
          exact this
end Go.Proofs.Ytcbeaimpmjljjaa
namespace Go.Proofs.Ytcbeaimpmjljjaa
set_option linter.unusedVariables false
set_option linter.unusedSimpArgs false
/-- one line, one leg -/
theorem uniq_lt {n : Int} {cs : Calls2} (h : POk n cs) {i k i' k' : Nat} (hi : i < cs.length) (hk : k < cs[i].2.length) (hi' : i' < cs.length) (hk' : k' < cs[i'].2.length) (hlt : i < i' ∨ (i = i' ∧ k < k')) : cs[i].2[k].1 ≠ cs[i'].2[k'].1 := by
  intro e
  obtain ⟨r, hr⟩ := seen_pre cs i' k' hi' hk'
  have hn := h.2.2.2.2
  rw [hr, List.append_assoc, List.nodup_append] at hn
  refine hn.2.2 cs[i].2[k].1 ?_ cs[i'].2[k'].1 (by simp) e
  rw [List.mem_append]
  rcases hlt with hlt | ⟨rfl, hlt⟩
  · left
    rw [linesTo, List.mem_flatMap]
    exact ⟨cs[i], by rw [List.mem_take_iff_getElem]; exact ⟨i, by omega, rfl⟩, List.mem_map.2 ⟨_, List.getElem_mem hk, rfl⟩⟩
  · right
    rw [List.mem_map]
    exact ⟨cs[i].2[k], by rw [List.mem_take_iff_getElem]; exact ⟨k, by omega, rfl⟩, rfl⟩
theorem uniq {n : Int} {cs : Calls2} (h : POk n cs) {i k i' k' : Nat} (hi : i < cs.length) (hk : k < cs[i].2.length) (hi' : i' < cs.length) (hk' : k' < cs[i'].2.length) (e : cs[i].2[k].1 = cs[i'].2[k'].1) : i = i' ∧ k = k' := by
  rcases Nat.lt_trichotomy i i' with hl | hl | hl
  · exact absurd e (uniq_lt h hi hk hi' hk' (.inl hl))
  · subst hl
    rcases Nat.lt_trichotomy k k' with hl | hl | hl
    · exact absurd e (uniq_lt h hi hk hi' hk' (.inr ⟨rfl, hl⟩))
    · exact ⟨rfl, hl⟩
    · exact absurd e.symm (uniq_lt h hi' hk' hi hk (.inr ⟨rfl, hl⟩))
  · exact absurd e.symm (uniq_lt h hi' hk' hi hk (.inl hl))
theorem leg_of {n : Int} {cs : Calls2} (h : POk n cs) {i k : Nat} (hi : i < cs.length) (hk : k < cs[i].2.length) : legAt cs[i].2 cs[i].2[k].1 = some k ∧ callAt cs cs[i].2[k].1 = some i := by
  have h1 : legAt cs[i].2 cs[i].2[k].1 = some k := legAt_take hk rfl fun t ht htk e => by have := (uniq h hi ht hi hk e).2; omega
  refine ⟨h1, callAt_take hi (by rw [plc, h1]; simp) fun t ht hti => ?_⟩
  rw [plc, legAt_all fun b hb e => by have := (uniq h ht hb hi hk e).1; omega]
  decide
/-- the line l hears x, told by the calls -/
theorem mem_hears {n : Int} {cs : Calls2} (h : POk n cs) {l x : Int} {i : Nat} (hc : callAt cs l = some i) (hi : i < cs.length) (hp : cs[i].1 = false) (hh : heldAt cs[i].2 l = false) :
    x ∈ hears cs l ↔ x ≠ l ∧ callAt cs x = some i ∧ heldAt cs[i].2 x = false := by
  have hg : cs.getD i (false, []) = cs[i] := by simp [List.getElem?_eq_getElem hi]
  simp only [hears, hc, hg, hp, hh, Bool.or_self, Bool.false_eq_true, if_false, others, List.mem_map, List.mem_filter, Bool.and_eq_true, Bool.not_eq_true', beq_eq_false_iff_ne]
  constructor
  · rintro ⟨y, ⟨hy, h1, h2⟩, rfl⟩
    obtain ⟨k, hk, rfl⟩ := List.getElem_of_mem hy
    obtain ⟨e1, e2⟩ := leg_of h hi hk
    refine ⟨h1, e2, ?_⟩
    rw [heldAt, e1]
    simpa [List.getElem?_eq_getElem hk] using h2
  · rintro ⟨h1, h2, h3⟩
    rw [callAt, List.findIdx?_eq_some_iff_getElem] at h2
    obtain ⟨_, h4, _⟩ := h2
    obtain ⟨k, hk⟩ := Option.isSome_iff_exists.1 h4
    obtain ⟨hkl, hke⟩ := legAt_some hk
    refine ⟨cs[i].2[k], ⟨List.getElem_mem hkl, by rw [hke]; exact h1, ?_⟩, hke⟩
    rw [heldAt, hk] at h3
    simpa [List.getElem?_eq_getElem hkl] using h3
theorem legs_nodup {n : Int} {cs : Calls2} (h : POk n cs) {i : Nat} (hi : i < cs.length) : (cs[i].2.map (·.1)).Nodup := by
  rw [List.Nodup, List.pairwise_iff_getElem]
  intro a b ha hb hab
  simp only [List.getElem_map]
  intro e
  have := (uniq h hi (by simpa using ha) hi (by simpa using hb) e).2
  omega
theorem hears_nodup {n : Int} {cs : Calls2} (h : POk n cs) (l : Int) : (hears cs l).Nodup := by
  unfold hears
  split
  · exact List.nodup_nil
  · rename_i i hc
    split
    · exact List.nodup_nil
    · have hi : i < cs.length := by
        rw [callAt, List.findIdx?_eq_some_iff_getElem] at hc
        exact hc.1
      have hg : cs.getD i (false, []) = cs[i] := by simp [List.getElem?_eq_getElem hi]
      rw [hg, others]
      exact List.Nodup.sublist (List.Sublist.map _ List.filter_sublist) (legs_nodup h hi)
theorem hears_range {n : Int} {cs : Calls2} (h : POk n cs) (l : Int) : ∀ x ∈ hears cs l, 0 ≤ x ∧ x < n := by
  intro x hx
  unfold hears at hx
  split at hx
  · simp at hx
  · rename_i i hc
    split at hx
    · simp at hx
    · have hi : i < cs.length := by
        rw [callAt, List.findIdx?_eq_some_iff_getElem] at hc
        exact hc.1
      have hg : cs.getD i (false, []) = cs[i] := by simp [List.getElem?_eq_getElem hi]
      rw [hg, others, List.mem_map] at hx
      obtain ⟨y, hy, rfl⟩ := hx
      refine h.2.2.2.1 y.1 ?_
      rw [linesTo_all, List.mem_flatMap]
      exact ⟨_, List.getElem_mem hi, List.mem_map.2 ⟨y, (List.mem_filter.1 hy).1, rfl⟩⟩
/-- those of the first n numbers that are in a list -/
def asc (n : Nat) (l : List Int) : List Int := ((List.range n).map fun i : Nat => (i : Int)).filter fun x => decide (x ∈ l)
theorem asc_succ (n : Nat) (l : List Int) : asc (n + 1) l = asc n l ++ (if (n : Int) ∈ l then [(n : Int)] else []) := by
  rw [asc, asc, List.range_succ, List.map_append, List.filter_append]
  congr 1
  simp [List.filter_cons]
theorem asc_nodup (n : Nat) (l : List Int) : (asc n l).Nodup := by
  rw [asc]
  refine List.Nodup.sublist List.filter_sublist ?_
  rw [List.Nodup, List.pairwise_map]
  refine List.Pairwise.imp ?_ List.nodup_range
  intro a b hab e
  exact hab (by omega)
theorem mem_asc {n : Nat} {l : List Int} (h : ∀ x ∈ l, 0 ≤ x ∧ x < n) (x : Int) : x ∈ asc n l ↔ x ∈ l := by
  rw [asc, List.mem_filter, List.mem_map]
  simp only [List.mem_range, decide_eq_true_eq]
  constructor
  · rintro ⟨_, h⟩; exact h
  · intro hx
    have := h x hx
    exact ⟨⟨x.toNat, by omega, by omega⟩, hx⟩
theorem perm_of_mem {a b : List Int} (ha : a.Nodup) (hb : b.Nodup) (h : ∀ x, x ∈ a ↔ x ∈ b) : a.Perm b := by
  rw [List.perm_iff_count]
  intro x
  by_cases hx : x ∈ a
  · rw [ha.count, hb.count]; simp [hx, (h x).1 hx]
  · rw [List.count_eq_zero.2 hx, List.count_eq_zero.2 (fun hb => hx ((h x).2 hb))]
theorem asc_perm {n : Nat} {l : List Int} (hn : l.Nodup) (h : ∀ x ∈ l, 0 ≤ x ∧ x < n) : (asc n l).Perm l := perm_of_mem (asc_nodup n l) hn (mem_asc h)
end Go.Proofs.Ytcbeaimpmjljjaa
