/- The contract of the program's Mix; no condition. -/
import Derived.Test.YtcbeaimpmjljjaaMixS
namespace Go.Proofs.Ytcbeaimpmjljjaa
open Go.RowKit Go.ChangeShapes Go.WideShapes Go.ChangeAt
set_option linter.unusedVariables false
set_option linter.unusedSimpArgs false
set_option maxRecDepth 8000
def LevR (lev : List Int) (w : World) (e : Ending) (w' : World) : Prop := ∃ r, e = .returned (.bool r) ∧ (r = true ↔ LevOk lev) ∧ w' = w
set_option maxHeartbeats 800000 in
theorem levels_c (u : Value) (lev : List Int) (w : World) (hu : Rd .i64 w u lev) :
   Calls Try.prog 69 #[u] w (LevR lev w) := by
  obtain ⟨au, cu, rfl, u1, u2, u3⟩ := hu
  unfold maxLen at u2
  go_enter Try.func69, Try.ntmps69
  go_wp2
  go_loopw [7] (fun i wr => ∃ j : Nat, j ≤ lev.length ∧ i = .int .i64 j ∧ wr = w ∧ Hid (∀ x ∈ lev.take j, -32767 ≤ x ∧ x ≤ 32767)) (fun i _ => lev.length - (intOf i).toNat)
  case atStart => exact ⟨0, Nat.zero_le _, rfl, rfl, fun x hx => by simp at hx⟩
  case round =>
    obtain ⟨j, hj, rfl, hwr, hL⟩ := hrel
    rw [hwr]
    clear hwr wr
    by_cases hlt : j < lev.length
    · rcases u3 with u3 | ⟨bu, ou, rfl, u4⟩
      · subst u3; simp at hlt
      have hc := u4 j hlt
      obtain ⟨x, hx⟩ : ∃ x, lev.getD j 0 = x := ⟨_, rfl⟩
      rw [hx] at hc
      have HX : Hid (lev[j] = x) := (by simpa [List.getElem?_eq_getElem hlt] using hx : lev[j] = x)
      clear u4 hx
      by_cases h1 : x < -32767
      · have HN : Hid (¬ LevOk lev) := fun h => by have := h _ (List.getElem_mem hlt); rw [HX.out] at this; omega
        go_wp2
        go_ret
        exact ⟨false, rfl, ⟨fun h => by simp at h, fun h => absurd h HN.out⟩, rfl⟩
      · by_cases h2 : 32767 < x
        · have HN : Hid (¬ LevOk lev) := fun h => by have := h _ (List.getElem_mem hlt); rw [HX.out] at this; omega
          go_wp2
          go_ret
          exact ⟨false, rfl, ⟨fun h => by simp at h, fun h => absurd h HN.out⟩, rfl⟩
        · have HL2 : Hid (∀ y ∈ lev.take (j + 1), -32767 ≤ y ∧ y ≤ 32767) := by
            intro y hy
            rw [List.take_succ_eq_append_getElem hlt, List.mem_append] at hy
            rcases hy with hy | hy
            · exact hL.out y hy
            · simp at hy; rw [hy, HX.out]; omega
          go_wp2
          go_roundw
          case rel => exact ⟨j + 1, by omega, by go_num, by trivial, HL2.out⟩
          case measure => simp [intOf]; omega
    · obtain rfl : j = lev.length := by omega
      have HLV : Hid (LevOk lev) := fun x hx => hL.out x (by simpa using hx)
      go_wp2
      go_ret
      exact ⟨true, rfl, ⟨fun _ => HLV.out, fun _ => rfl⟩, rfl⟩
/-- new blocks are for nothing of the panel -/
theorem Wr.fresh {base : Nat} {ρ : Nat → Tag} {chs : List Nat} {w : World} {g : Nat} {ps : List Nat} {cs : Calls2} (h : Wr base ρ chs w g ps cs) : ∃ ρ', (∀ k, w.heap.size ≤ k → ρ' k = Tag.other) ∧ Wr base ρ' chs w g ps cs :=
  ⟨fun k => if k < w.heap.size then ρ k else .other, fun k hk => by simp [show ¬ k < w.heap.size by omega], h.keeps (T := fun _ => False) (Keeps.ofBelow (Below.refl _ _)) (fun _ h => h.elim) (fun k hk => by simp [hk])⟩
theorem Wr.lineCell {base : Nat} {ρ : Nat → Tag} {chs : List Nat} {w : World} {g : Nat} {ps : List Nat} {cs : Calls2} (h : Wr base ρ chs w g ps cs) :
    ∃ gm, w.cell? ⟨g, 1, none⟩ = some (.map (some gm)) ∧ ∀ X : Nat, X < chs.length → (Instr.lookup 100 (.map (some gm)) (.chan (some (chs.getD X 0))) false).run Try.prog w = .ok (.int .i64 (X : Int)) w := by
  obtain ⟨wv, gm, cv, B0, -, -, R1, -, M1, -⟩ := h.ex
  refine ⟨gm, by have := B0.cell 1; simpa using this, fun X hX => ?_⟩
  exact lookup_chan Try.underlying100 Try.underlying98 M1 h.nod (chs.getD X 0) X (by simp [List.getElem?_eq_getElem hX])
set_option maxHeartbeats 1200000 in
theorem mix_c (n : Int) (v : Value) (cs : Calls2) (u : Value) (lev : List Int) (w : World) (h : RdC w v cs) (hu : Rd .i64 w u lev) :
   Calls Try.prog 28 #[.agg #[.int .i64 n, v], u] w (MixR n cs lev w) := by
  have hb : Below w.heap.size w (w.alloc (Obj.cells #[.int .i64 n, v] 26)) := (Below.refl _ _).alloc (Nat.le_refl _) _
  have H : Hid (Calls Try.prog 54 #[.agg #[.int .i64 n, v]] (w.alloc (Obj.cells #[.int .i64 n, v] 26)) (WireR n cs (w.alloc (Obj.cells #[.int .i64 n, v] 26)))) := wireP_c n v cs _ (h.below hb)
  have HB : Hid (Below w.heap.size w (w.alloc (Obj.cells #[.int .i64 n, v] 26))) := hb
  have HK : Hid (Blk (w.alloc (Obj.cells #[.int .i64 n, v] 26)) w.heap.size #[.int .i64 n, v] 26) := Blk.new _ _ _
  have HRU : Hid (Rd .i64 w u lev) := hu
  obtain ⟨rv, -, ⟨a0, cap, rfl, -⟩, -⟩ := h
  obtain ⟨au, cu, rfl, u1, u2, u3⟩ := hu
  unfold maxLen at u2
  clear hb
  go_enter Try.func28, Try.ntmps28
  go_wp2_with (fail)
  refine H.out.mono ?_
  rintro e w2 ⟨x, r, rfl, hr, b2, hw⟩
  have HR : Hid (r = true ↔ POk n cs) := hr
  have HB2 : Hid (Below w.heap.size w w2) := belowCall HB.out b2 HB.out.size
  have HW : Hid (r = true → ∃ g ρ chs ps, x = some ⟨g, 0, none⟩ ∧ Wr (w.alloc (Obj.cells #[.int .i64 n, .slice a0 rv.length cap] 26)).heap.size ρ chs w2 g ps cs ∧ (chs.length : Int) = n) := hw
  have HK2 : Hid (Blk w2 w.heap.size #[.int .i64 n, .slice a0 rv.length cap] 26) := HK.out.below b2 (by simp)
  have c0 : w2.cell? ⟨w.heap.size, 0, none⟩ = some (.int .i64 n) := by have := HK2.out.cell 0; simpa using this
  have HNIL : Hid (∀ W, Ow .i64 3 w.heap.size W (.slice none 0 0) []) := fun W => Ow.nil _ _ _ _
  clear hr b2 hw H HB HK
  cases r with
  | false =>
    have HN : Hid (¬ MixOk n cs lev) := fun h => by have := HR.out.2 h.1; cases this
    clear HR HW
    go_wp2
    go_ret2
    exact ⟨_, _, [], rfl, HNIL.out _, ⟨fun h => absurd h HN.out, fun _ => ⟨rfl, rfl⟩⟩, HB2.out⟩
  | true =>
    obtain ⟨g, ρ, chs, ps, rfl, hWr, rfl⟩ := HW.out rfl
    have HP : Hid (POk chs.length cs) := HR.out.1 rfl
    have hpos : 1 ≤ chs.length ∧ chs.length ≤ 40 := by have h1 := HP.out.1; have h2 := HP.out.2.1; omega
    obtain ⟨ρ', hρ', hWr'⟩ := hWr.fresh
    have HWr : Hid (Wr (w.alloc (Obj.cells #[.int .i64 (chs.length : Int), .slice a0 rv.length cap] 26)).heap.size ρ' chs w2 g ps cs) := hWr'
    have HRHO : Hid (∀ k, w2.heap.size ≤ k → ρ' k = Tag.other) := hρ'
    clear hWr hWr' hρ' HR HW
    by_cases hln : lev.length = chs.length
    · have hlnI : (lev.length : Int) = (chs.length : Int) := by omega
      have hneb : ((lev.length : Int) != (chs.length : Int)) = false := by simp [hlnI]
      have hle1 : lev.length ≤ chs.length := by omega
      have hle2 : chs.length ≤ lev.length := by omega
      have HLN : Hid (lev.length = chs.length) := hln
      clear hln hlnI
      have HLC : Hid (Calls Try.prog 69 #[.slice au lev.length cu] w2 (LevR lev w2)) := levels_c _ lev w2 (HRU.out.below HB2.out)
      go_wp2_with (fail)
      refine HLC.out.mono ?_
      rintro e wx ⟨rl, rfl, hrl, hwx⟩
      rw [hwx]
      have HRL : Hid (rl = true ↔ LevOk lev) := hrl
      clear hwx wx hrl HLC
      cases rl with
      | false =>
        have HN : Hid (¬ MixOk (chs.length : Int) cs lev) := fun h => by have := HRL.out.2 h.2.2; cases this
        go_wp2
        go_ret2
        exact ⟨_, _, [], rfl, HNIL.out _, ⟨fun h => absurd h HN.out, fun _ => ⟨rfl, rfl⟩⟩, HB2.out⟩
      | true =>
        have HLV : Hid (LevOk lev) := HRL.out.1 rfl
        obtain ⟨i0, hi, hz0, hz1, hz2⟩ := info_parts toIInfo
        obtain ⟨bw, cw, q1, q2, q3, q4, q5, q6⟩ := HWr.out.wireCell (by omega)
        have HQ : Hid (∀ L, L < chs.length → w2.cell? ⟨bw, L, none⟩ = some (.chan (some (chs.getD L 0)))) := q6
        have hB2s := HB2.out.size
        clear HRL c0 q6
        go_wp2_with (at_make; refine wpList_make_full _ rfl _ _ 31 rfl w.heap.size 3 i0 (.int .i64 0) 1 Try.underlying31 hi hz0 hz1 .i64 .i64 _ _ lev.length rfl rfl rfl rfl (by rw [hz2]; omega) (by unfold maxLen; omega) (by omega) ?_)
        intro w3 ho3 hg3
        have hx : (madeCells #[Value.int .i64 0] lev.length).toList = (mix (mixedTo cs lev lev.length) 0).map (Value.int .i64) := by
          rw [toList_madeCells_one]; simp [mix, mixedTo_len]
        rw [hx] at ho3
        have b23 : Below w2.heap.size w2 w3 := grown_below hg3 (Nat.le_refl _) (by simp)
        have HB3 : Hid (Below w.heap.size w w3) := HB2.out.trans (b23.mono hB2s)
        have HWr3 : Hid (Wr (w.alloc (Obj.cells #[.int .i64 (chs.length : Int), .slice a0 rv.length cap] 26)).heap.size ρ' chs w3 g ps cs) := HWr.out.below b23
        have HO3 : Hid (w3.ownsRow w.heap.size 3 1 (.slice (some ⟨w2.heap.size, 0, none⟩) lev.length lev.length) lev.length ((mix (mixedTo cs lev lev.length) 0).map (Value.int .i64))) := ho3
        have x5 : w3.cell? ⟨g, 0, none⟩ = some (.slice (some ⟨bw, 0, none⟩) chs.length cw) := (b23.cell q3).trans q5
        have HB23 : Hid (Below w2.heap.size w2 w3) := b23
        clear ho3 hg3 hx b23 q5 HWr
        go_wp2
        clear x5
        go_loopw [41] (fun i wr => ∃ j : Nat, j ≤ chs.length ∧ i = .int .i64 j ∧ Hid (wr.ownsRow w.heap.size 3 1 (.slice (some ⟨w2.heap.size, 0, none⟩) lev.length lev.length) lev.length ((mix (mixedTo cs lev lev.length) j).map (Value.int .i64))) ∧ Hid (Wr (w.alloc (Obj.cells #[.int .i64 (chs.length : Int), .slice a0 rv.length cap] 26)).heap.size ρ' chs wr g ps cs) ∧ Hid (Below w2.heap.size w2 wr)) (fun i _ => chs.length - (intOf i).toNat)
        case atStart => exact ⟨0, Nat.zero_le _, rfl, HO3.out, HWr3.out, HB23.out⟩
        case round =>
          obtain ⟨j, hj, rfl, hO, hW, hB⟩ := hrel
          clear HO3 HWr3 HB3 HB23
          by_cases hlt : j < chs.length
          · have hltI : (j : Int) < (chs.length : Int) := by omega
            obtain ⟨q, hq⟩ : ∃ q, chs.getD j 0 = q := ⟨_, rfl⟩
            have dq : wr.cell? ⟨bw, j, none⟩ = some (.chan (some q)) := by rw [hB.out.cell q4, HQ.out j hlt, hq]
            have HF : Hid (Calls Try.prog 65 #[ptr g, .chan (some q)] wr (HearR chs cs (j : Int) wr)) := by
              rw [← hq]
              exact heardBy_c hW.out (fun c hc => by obtain ⟨i, hi, rfl⟩ := List.getElem_of_mem hc; exact (HP.out.2.2.1 i hi).2.1) (j : Int) (by omega)
            clear hq
            go_wp2_with (fail)
            refine HF.out.mono ?_
            rintro e w4 ⟨hv, rfl, ho4, b4⟩
            obtain ⟨hs, hhs⟩ : ∃ hs, hears cs (j : Int) = hs := ⟨_, rfl⟩
            rw [hhs] at ho4
            have hhr : ∀ x ∈ hs, 0 ≤ x ∧ x < (chs.length : Int) := by rw [← hhs]; exact hears_range HP.out _
            have hhl : hs.length ≤ 40 := by
              have := lines_len chs.length hs (hhs ▸ hears_nodup HP.out _) hhr
              omega
            have HW4 := hW.out.below b4
            obtain ⟨gm, gc, gl⟩ := HW4.lineCell
            obtain ⟨ah, chh, rfl, k1, k2, k3⟩ := own_form ho4
            have HHS : Hid (hears cs (j : Int) = hs) := hhs
            have HHR : Hid (∀ x ∈ hs, 0 ≤ x ∧ x < (chs.length : Int)) := hhr
            have HGL : Hid (∀ X : Nat, X < chs.length → (Instr.lookup 100 (.map (some gm)) (.chan (some (chs.getD X 0))) false).run Try.prog w4 = .ok (.int .i64 (X : Int)) w4) := gl
            have HO4 : Hid (w4.ownsRow wr.heap.size 98 1 (.slice ah hs.length chh) hs.length (hs.map (chv chs))) := ho4
            have HOM : Hid (w4.ownsRow w.heap.size 3 1 (.slice (some ⟨w2.heap.size, 0, none⟩) lev.length lev.length) lev.length ((mix (mixedTo cs lev lev.length) j).map (Value.int .i64))) := World.ownsRow.kept hO.out (below_grown b4) (by simp [Value.ownBlock])
            have HWW : Hid (Wr (w.alloc (Obj.cells #[.int .i64 (chs.length : Int), .slice a0 rv.length cap] 26)).heap.size ρ' chs w4 g ps cs) := HW4
            have HB4 : Hid (Below w2.heap.size w2 w4) := belowCall hB.out b4 hB.out.size
            have HBW : Hid (Below w.heap.size w w4) := HB2.out.trans (HB4.out.mono hB2s)
            clear ho4 b4 hhs hhr gl HW4 hO hW hB HF dq
            go_wp2
            go_loopw [11, 50] (fun s i wr => ∃ t : Nat, t ≤ hs.length ∧ i = .int .i64 t ∧ s = .int .i64 (sumI ((hs.take t).map (lv lev))) ∧ wr = w4) (fun _ i _ => hs.length - (intOf i).toNat)
            case atStart => exact ⟨0, Nat.zero_le _, rfl, rfl, rfl⟩
            case round =>
              obtain ⟨t, ht, rfl, rfl, hwr⟩ := hrel
              rw [hwr]
              clear hwr wr
              by_cases htl : t < hs.length
              · rcases k3 with k3 | ⟨bh, rfl⟩
                · omega
                have hzr := HHR.out _ (List.getElem_mem htl)
                obtain ⟨X, hX⟩ := Int.eq_ofNat_of_zero_le hzr.1
                have d0 : w4.cell? ⟨bh, t, none⟩ = some (chv chs hs[t]) := by
                  rw [World.ownsRow.cellAt HO4.out t (by omega)]
                  simp [List.getElem?_eq_getElem htl]
                rw [hX] at hzr d0
                have hXl : X < chs.length := by omega
                have hXl' : X < lev.length := by omega
                obtain ⟨qx, hqx⟩ : ∃ q, chs.getD X 0 = q := ⟨_, rfl⟩
                have d0' : w4.cell? ⟨bh, t, none⟩ = some (.chan (some qx)) := by rw [d0, ← hqx]; rfl
                have hlk := HGL.out X hXl
                rw [hqx] at hlk
                rcases u3 with u3 | ⟨bu, ou, rfl, u4⟩
                · subst u3; simp at hXl'
                have d1 : w4.cell? ⟨bu, ou + X, none⟩ = some (.int .i64 (lev.getD X 0)) := by rw [HBW.out.cell (block_lt_of_cell (u4 X hXl'))]; exact u4 X hXl'
                obtain ⟨y, hy⟩ : ∃ y, lev.getD X 0 = y := ⟨_, rfl⟩
                rw [hy] at d1
                have hss := sum_succ lev hs t htl
                have hlvy : lv lev hs[t] = y := by rw [lv, hX]; simpa using hy
                rw [hlvy] at hss
                have hyb := lv_bd HLV.out hs[t]
                rw [hlvy] at hyb
                have hsb := sum_bd HLV.out (hs.take t)
                have htt : (hs.take t).length ≤ 40 := by simp; omega
                obtain ⟨s, hs'⟩ : ∃ s, sumI ((hs.take t).map (lv lev)) = s := ⟨_, rfl⟩
                rw [hs'] at hsb hss ⊢
                have hsb' : -1310680 ≤ s ∧ s ≤ 1310680 := by omega
                have HSS : Hid (sumI ((hs.take (t + 1)).map (lv lev)) = s + y) := hss
                have htI : (t : Int) < (hs.length : Int) := by omega
                have hXI : (X : Int) < (lev.length : Int) := by omega
                clear u4 hX hy hss hlvy hsb hs' htt hzr d0 hqx HGL
                go_wp2
                go_roundw
                case rel => exact ⟨t + 1, by omega, by go_num, by rw [HSS.out], by trivial⟩
                case measure => simp [intOf]; omega
              · obtain rfl : t = hs.length := by omega
                obtain ⟨s, hs'⟩ : ∃ s, sumI ((hs.take hs.length).map (lv lev)) = s := ⟨_, rfl⟩
                have hval : (mixedTo cs lev lev.length).getD j 0 = clip s := by
                  rw [← hs', List.take_length, ← HHS.out]
                  simp [mixedTo, show j < lev.length by omega]
                have hst := World.ownsRow.stored HOM.out j (.int .i64 (clip s))
                have e1 := mix_set .i64 (mixedTo cs lev lev.length) j (by rw [mixedTo_len]; omega)
                rw [hval] at e1
                rw [e1] at hst
                have HST : Hid ((w4.setCell ⟨w2.heap.size, j, none⟩ (.int .i64 (clip s))).ownsRow w.heap.size 3 1 (.slice (some ⟨w2.heap.size, 0, none⟩) lev.length lev.length) lev.length ((mix (mixedTo cs lev lev.length) (j + 1)).map (Value.int .i64))) := hst.1
                have HW5 : Hid (Wr (w.alloc (Obj.cells #[.int .i64 (chs.length : Int), .slice a0 rv.length cap] 26)).heap.size ρ' chs (w4.setCell ⟨w2.heap.size, j, none⟩ (.int .i64 (clip s))) g ps cs) :=
                  HWW.out.keeps (T := fun t => t = .other) (Keeps.set _ _ (HRHO.out _ (Nat.le_refl _))) (fun _ h => h) (fun _ _ => rfl)
                have HB5 : Hid (Below w2.heap.size w2 (w4.setCell ⟨w2.heap.size, j, none⟩ (.int .i64 (clip s)))) := HB4.out.setCell (by exact Nat.le_refl _) _
                obtain ⟨y0, d0⟩ : ∃ u, w4.cell? ⟨w2.heap.size, j, none⟩ = some u := by
                  rw [World.ownsRow.cellAt HOM.out j (by omega)]
                  exact ⟨_, List.getElem?_eq_getElem (by rw [List.length_map, mix_len _ _ (by rw [mixedTo_len]; omega), mixedTo_len]; omega)⟩
                have f0 := World.ownsRow.frozenAt HOM.out j
                have HCW : Hid ((if -32767 < (if 32767 < s then 32767 else s) then (if 32767 < s then 32767 else s) else -32767) = clip s) := by
                  show (if -32767 < (if 32767 < s then 32767 else s) then (if 32767 < s then 32767 else s) else -32767) = clip s
                  unfold clip
                  repeat' split
                  all_goals omega
                have hjl : (j : Int) < (lev.length : Int) := by omega
                rw [hs']
                clear k3 hs' hst e1 hval
                go_wp2
                go_roundw
                case rel =>
                  refine ⟨j + 1, by omega, by go_num, ?_, ?_, ?_⟩
                  · rw [HCW.out]; exact HST.out
                  · rw [HCW.out]; exact HW5.out
                  · rw [HCW.out]; exact HB5.out
                case measure => simp [intOf]; omega
          · have hje : j = chs.length := by omega
            have HFIN : Hid (wr.ownsRow w.heap.size 3 1 (.slice (some ⟨w2.heap.size, 0, none⟩) lev.length lev.length) lev.length ((mixedTo cs lev lev.length).map (Value.int .i64))) := by
              have h1 := hO.out
              have h2 : mix (mixedTo cs lev lev.length) j = mixedTo cs lev lev.length := by
                have h3 := mix_full (mixedTo cs lev lev.length)
                rw [mixedTo_len] at h3
                rw [hje, ← HLN.out]; exact h3
              rw [h2] at h1; exact h1
            have HBF : Hid (Below w.heap.size w wr) := HB2.out.trans (hB.out.mono hB2s)
            have hjf : ((j : Int) < (chs.length : Int)) = False := by simp; omega
            clear hO hW hB hje
            go_wp2
            go_ret2
            refine ⟨_, _, mixedTo cs lev lev.length, rfl, ?_, ⟨fun _ => ⟨rfl, rfl⟩, fun h => absurd ⟨HP.out, by rw [HLN.out], HLV.out⟩ h⟩, HBF.out⟩
            rw [Ow, mixedTo_len]
            exact HFIN.out
    · have hneb : ((lev.length : Int) != (chs.length : Int)) = true := by rw [bne_iff_ne]; omega
      have HN : Hid (¬ MixOk (chs.length : Int) cs lev) := fun h => hln (by have := h.2.1; omega)
      go_wp2
      go_ret2
      exact ⟨_, _, [], rfl, HNIL.out _, ⟨fun h => absurd h HN.out, fun _ => ⟨rfl, rfl⟩⟩, HB2.out⟩
end Go.Proofs.Ytcbeaimpmjljjaa
