/- What Mix is to answer, and the contract of the model's; no condition. -/
import Derived.Test.YtcbeaimpmjljjaaHearS
namespace Go.Proofs.Ytcbeaimpmjljjaa
open Go.RowKit Go.ChangeShapes Go.WideShapes Go.ChangeAt
set_option linter.unusedVariables false
set_option linter.unusedSimpArgs false
set_option maxRecDepth 8000
def sumI : List Int → Int
  | [] => 0
  | x :: r => x + sumI r
theorem sumI_app : ∀ a b : List Int, sumI (a ++ b) = sumI a + sumI b
  | [], b => by simp [sumI]
  | x :: r, b => by simp [sumI, sumI_app r b]; omega
theorem sumI_perm {a b : List Int} (h : a.Perm b) : sumI a = sumI b := by
  induction h with
  | nil => rfl
  | cons x _ ih => simp [sumI, ih]
  | swap x y l => simp [sumI]; omega
  | trans _ _ h1 h2 => rw [h1, h2]
def clip (x : Int) : Int := if x > 32767 then 32767 else if x < -32767 then -32767 else x
def lv (lev : List Int) (x : Int) : Int := lev.getD x.toNat 0
/-- levels as they are to be -/
def LevOk (lev : List Int) : Prop := ∀ x ∈ lev, -32767 ≤ x ∧ x ≤ 32767
theorem lv_bd {lev : List Int} (h : LevOk lev) (x : Int) : -32767 ≤ lv lev x ∧ lv lev x ≤ 32767 := by
  rw [lv]
  by_cases hx : x.toNat < lev.length
  · have := h _ (List.getElem_mem hx)
    simpa [List.getElem?_eq_getElem hx] using this
  · simp [List.getElem?_eq_none (by omega : lev.length ≤ x.toNat)]
theorem sum_bd {lev : List Int} (h : LevOk lev) : ∀ hs : List Int, -(32767 * hs.length) ≤ sumI (hs.map (lv lev)) ∧ sumI (hs.map (lv lev)) ≤ 32767 * hs.length
  | [] => by simp [sumI]
  | x :: r => by
    have h1 := sum_bd h r
    have h2 := lv_bd h x
    simp only [List.map_cons, sumI, List.length_cons]
    omega
theorem sum_succ (lev hs : List Int) (j : Nat) (h : j < hs.length) : sumI ((hs.take (j + 1)).map (lv lev)) = sumI ((hs.take j).map (lv lev)) + lv lev hs[j] := by
  rw [List.take_succ_eq_append_getElem h, List.map_append, sumI_app]; simp [sumI]
def MixOk (n : Int) (cs : Calls2) (lev : List Int) : Prop := POk n cs ∧ (lev.length : Int) = n ∧ LevOk lev
def mixedTo (cs : Calls2) (lev : List Int) (j : Nat) : List Int := (List.range j).map fun l : Nat => clip (sumI ((hears cs (l : Int)).map (lv lev)))
theorem mixedTo_succ (cs : Calls2) (lev : List Int) (j : Nat) : mixedTo cs lev (j + 1) = mixedTo cs lev j ++ [clip (sumI ((hears cs (j : Int)).map (lv lev)))] := by simp [mixedTo, List.range_succ]
theorem mixedTo_len (cs : Calls2) (lev : List Int) (j : Nat) : (mixedTo cs lev j).length = j := by simp [mixedTo]
def MS (n : Int) (cs : Calls2) (lev : List Int) (r : Bool) (zs : List Int) : Prop := (MixOk n cs lev → r = true ∧ zs = mixedTo cs lev lev.length) ∧ (¬ MixOk n cs lev → r = false ∧ zs = [])
theorem MS.same {n : Int} {cs : Calls2} {lev : List Int} {r r' : Bool} {a b : List Int} (ha : MS n cs lev r a) (hb : MS n cs lev r' b) : r = r' ∧ a = b := by
  by_cases h : MixOk n cs lev
  · rw [(ha.1 h).1, (ha.1 h).2, (hb.1 h).1, (hb.1 h).2]; exact ⟨rfl, rfl⟩
  · rw [(ha.2 h).1, (ha.2 h).2, (hb.2 h).1, (hb.2 h).2]; exact ⟨rfl, rfl⟩
theorem MS.len {n : Int} {cs : Calls2} {lev : List Int} {r : Bool} {zs : List Int} (h : MS n cs lev r zs) : zs.length ≤ lev.length := by
  by_cases hm : MixOk n cs lev
  · rw [(h.1 hm).2, mixedTo_len]; exact Nat.le_refl _
  · rw [(h.2 hm).2]; simp
def MixR (n : Int) (cs : Calls2) (lev : List Int) (w : World) (e : Ending) (w' : World) : Prop :=
  ∃ v' r zs, e = .returned (.tuple #[v', .bool r]) ∧ Ow .i64 3 w.heap.size w' v' zs ∧ MS n cs lev r zs ∧ Below w.heap.size w w'
theorem level_c (x : Int) (w : World) : Calls Try.prog 70 #[.int .i64 x] w fun e w' => e = .returned (.bool (decide (-32767 ≤ x ∧ x ≤ 32767))) ∧ w' = w := by
  go_enter Try.func70, Try.ntmps70
  go_wp2_with (go_at_call 53; refine (in_c _ _ _ _).mono ?_; rintro e w2 ⟨rfl, rfl⟩)
  go_ret
  exact ⟨by simp, rfl⟩
theorem clip_c (x : Int) (w : World) : Calls Try.prog 71 #[.int .i64 x] w fun e w' => e = .returned (.int .i64 (clip x)) ∧ w' = w := by
  go_enter Try.func71, Try.ntmps71
  by_cases h1 : 32767 < x
  · go_wp2
    go_ret
    exact ⟨by simp [clip, h1], rfl⟩
  · by_cases h2 : x < -32767
    · go_wp2
      go_ret
      exact ⟨by simp [clip, h1, h2], rfl⟩
    · go_wp2
      go_ret
      exact ⟨ret_int (by rw [clip, if_neg (by omega), if_neg (by omega)]), rfl⟩
set_option maxHeartbeats 3200000 in
theorem specMix_c (n : Int) (v : Value) (cs : Calls2) (u : Value) (lev : List Int) (w : World) (h : RdC w v cs) (hu : Rd .i64 w u lev) :
   Calls Try.prog 29 #[.agg #[.int .i64 n, v], u] w (MixR n cs lev w) := by
  have hb : Below w.heap.size w ((w.alloc (Obj.cells #[.int .i64 n, v] 26)).alloc (Obj.cells #[] 3)) := ((Below.refl _ _).alloc (Nat.le_refl _) _).alloc (by simp) _
  have HH : Hid (RdC ((w.alloc (Obj.cells #[.int .i64 n, v] 26)).alloc (Obj.cells #[] 3)) v cs) := h.below hb
  have HB : Hid (Below w.heap.size w ((w.alloc (Obj.cells #[.int .i64 n, v] 26)).alloc (Obj.cells #[] 3))) := hb
  have HK : Hid (Blk ((w.alloc (Obj.cells #[.int .i64 n, v] 26)).alloc (Obj.cells #[] 3)) w.heap.size #[.int .i64 n, v] 26) := (Blk.new _ _ _).alloc _
  have HO : Hid (Ow .i64 3 (w.heap.size + 1) ((w.alloc (Obj.cells #[.int .i64 n, v] 26)).alloc (Obj.cells #[] 3)) (.slice (some ⟨w.heap.size + 1, 0, none⟩) 0 0) []) := by
    have := Ow.empty .i64 3 (w.heap.size + 1) (w.alloc (Obj.cells #[.int .i64 n, v] 26)) (by simp)
    rw [show (w.alloc (Obj.cells #[.int .i64 n, v] 26)).heap.size = w.heap.size + 1 by simp] at this
    exact this
  have HRD : Hid (RdC w v cs) := h
  obtain ⟨rv, -, ⟨a0, cap, rfl, -⟩, -⟩ := h
  obtain ⟨au, cu, rfl, u1, u2, u3⟩ := hu
  unfold maxLen at u2
  clear hb
  go_enter Try.func29, Try.ntmps29
  go_wp2_with (fail)
  refine (ok_c n _ cs _ HH.out).mono ?_
  rintro e w2 ⟨r, rfl, hr, b2⟩
  have HR : Hid (r = true ↔ POk n cs) := hr
  have HB2 : Hid (Below w.heap.size w w2) := belowCall HB.out b2 HB.out.size
  have HK2 : Hid (Blk w2 w.heap.size #[.int .i64 n, .slice a0 rv.length cap] 26) := HK.out.below b2 (by simp; omega)
  have HO2 : Hid (Ow .i64 3 (w.heap.size + 1) w2 (.slice (some ⟨w.heap.size + 1, 0, none⟩) 0 0) []) := HO.out.below b2
  have c0 : w2.cell? ⟨w.heap.size, 0, none⟩ = some (.int .i64 n) := by have := HK2.out.cell 0; simpa using this
  clear hr b2 HB HK HO HH
  cases r with
  | false =>
    have HN : Hid (¬ MixOk n cs lev) := fun h => by have := HR.out.2 h.1; cases this
    clear HR
    go_wp2
    go_ret2
    exact ⟨_, _, [], rfl, HO2.out.mono (Nat.le_succ _), ⟨fun h => absurd h HN.out, fun _ => ⟨rfl, rfl⟩⟩, HB2.out⟩
  | true =>
    have HP : Hid (POk n cs) := HR.out.1 rfl
    clear HR
    by_cases hln : (lev.length : Int) = n
    · subst hln
      have hneb : ((lev.length : Int) != (lev.length : Int)) = false := by simp
      have hl40 : lev.length ≤ 40 := by have := HP.out.2.1; omega
      go_wp2
      go_loopw [7] (fun i wr => ∃ j : Nat, j ≤ lev.length ∧ i = .int .i64 j ∧ wr = w2 ∧ Hid (∀ x ∈ lev.take j, -32767 ≤ x ∧ x ≤ 32767)) (fun i _ => lev.length - (intOf i).toNat)
      case atStart => exact ⟨0, Nat.zero_le _, rfl, rfl, fun x hx => by simp at hx⟩
      case round =>
        obtain ⟨j, hj, rfl, hwr, hL⟩ := hrel
        rw [hwr]
        clear hwr wr
        by_cases hlt : j < lev.length
        · rcases u3 with u3 | ⟨bu, ou, rfl, u4⟩
          · subst u3; simp at hlt
          have hc : w2.cell? ⟨bu, ou + j, none⟩ = some (.int .i64 (lev.getD j 0)) := by rw [HB2.out.cell (block_lt_of_cell (u4 j hlt))]; exact u4 j hlt
          obtain ⟨x, hx⟩ : ∃ x, lev.getD j 0 = x := ⟨_, rfl⟩
          rw [hx] at hc
          have hxe : lev[j] = x := by simpa [List.getElem?_eq_getElem hlt] using hx
          have hltI : (j : Int) < (lev.length : Int) := by omega
          have HX : Hid (lev[j] = x) := hxe
          clear u4 hx hxe
          by_cases hok : -32767 ≤ x ∧ x ≤ 32767
          · have hd : decide (-32767 ≤ x ∧ x ≤ 32767) = true := by simp only [decide_eq_true_eq]; exact hok
            have HL2 : Hid (∀ y ∈ lev.take (j + 1), -32767 ≤ y ∧ y ≤ 32767) := by
              intro y hy
              rw [List.take_succ_eq_append_getElem hlt, List.mem_append] at hy
              rcases hy with hy | hy
              · exact hL.out y hy
              · simp at hy; rw [hy, HX.out]; exact hok
            go_wp2_with (go_at_call 70; refine (level_c _ _).mono ?_; rintro e wx ⟨rfl, hwx⟩; rw [hwx]; clear hwx wx; rw [hd])
            go_roundw
            case rel => exact ⟨j + 1, by omega, by go_num, by trivial, HL2.out⟩
            case measure => simp [intOf]; omega
          · have hd : decide (-32767 ≤ x ∧ x ≤ 32767) = false := by simp only [decide_eq_false_iff_not]; exact hok
            have HN : Hid (¬ MixOk (lev.length : Int) cs lev) := fun h => hok (HX.out ▸ h.2.2 _ (List.getElem_mem hlt))
            have HOE : Hid (Ow .i64 3 w.heap.size (w2.alloc (Obj.cells #[] 3)) (.slice (some ⟨w2.heap.size, 0, none⟩) 0 0) []) := Ow.empty .i64 3 w.heap.size w2 HB2.out.size
            have HBE : Hid (Below w.heap.size w (w2.alloc (Obj.cells #[] 3))) := HB2.out.alloc HB2.out.size _
            go_wp2_with (go_at_call 70; refine (level_c _ _).mono ?_; rintro e wx ⟨rfl, hwx⟩; rw [hwx]; clear hwx wx; rw [hd])
            go_ret2
            exact ⟨_, _, [], rfl, HOE.out, ⟨fun h => absurd h HN.out, fun _ => ⟨rfl, rfl⟩⟩, HBE.out⟩
        · obtain rfl : j = lev.length := by omega
          have HLV : Hid (LevOk lev) := fun x hx => hL.out x (by simpa using hx)
          clear hL
          go_wp2
          go_loopw [6, 8] (fun ov i wr => ∃ j : Nat, j ≤ lev.length ∧ i = .int .i64 j ∧ Hid (Ow .i64 3 (w.heap.size + 1) wr ov (mixedTo cs lev j)) ∧ Hid (Blk wr w.heap.size #[.int .i64 (lev.length : Int), .slice a0 rv.length cap] 26) ∧ Hid (Below w.heap.size w wr)) (fun _ i _ => lev.length - (intOf i).toNat)
          case atStart => exact ⟨0, Nat.zero_le _, rfl, (show Ow .i64 3 (w.heap.size + 1) w2 _ (mixedTo cs lev 0) from HO2.out), HK2.out, HB2.out⟩
          case round =>
            obtain ⟨j, hj, rfl, hO, hK, hB⟩ := hrel
            clear c0 HO2 HK2 HB2
            have c0 : wr.cell? ⟨w.heap.size, 0, none⟩ = some (.int .i64 (lev.length : Int)) := by have := hK.out.cell 0; simpa using this
            have c1 : wr.cell? ⟨w.heap.size, 1, none⟩ = some (.slice a0 rv.length cap) := by have := hK.out.cell 1; simpa using this
            by_cases hlt : j < lev.length
            · have hltI : (j : Int) < (lev.length : Int) := by omega
              have HF : Hid (Calls Try.prog 25 #[.agg #[.int .i64 (lev.length : Int), .slice a0 rv.length cap], .int .i64 (j : Int)] wr (HeardR (lev.length : Int) cs (j : Int) wr)) := specHeard_c _ _ cs j wr (HRD.out.below hB.out)
              go_wp2_with (fail)
              refine HF.out.mono ?_
              rintro e w4 ⟨hv, zs, rfl, ho4, hs4, b4⟩
              have hz := hs4.1 HP.out
              have hz' : zs = asc lev.length (hears cs (j : Int)) := by simpa using hz
              have HSUM : Hid (sumI (zs.map (lv lev)) = sumI ((hears cs (j : Int)).map (lv lev))) := by
                show sumI (zs.map (lv lev)) = sumI ((hears cs (j : Int)).map (lv lev))
                rw [hz']
                exact sumI_perm ((asc_perm (hears_nodup HP.out _) (hears_range HP.out _)).map _)
              have hzl : zs.length ≤ 40 := by have := asc_len lev.length (hears cs (j : Int)); rw [hz']; omega
              have HZR : Hid (∀ x ∈ zs, 0 ≤ x ∧ x < (lev.length : Int)) := by
                intro x hx
                rw [hz', mem_asc (hears_range HP.out _)] at hx
                exact hears_range HP.out _ x hx
              have HB4 : Hid (Below w.heap.size w w4) := belowCall hB.out b4 hB.out.size
              have HK4 : Hid (Blk w4 w.heap.size #[.int .i64 (lev.length : Int), .slice a0 rv.length cap] 26) := hK.out.below b4 hK.out.lt
              have HO4 : Hid (Ow .i64 3 (w.heap.size + 1) w4 u6 (mixedTo cs lev j)) := hO.out.below b4
              obtain ⟨ah, ch, rfl, k1, k2, k3⟩ := ho4.rd
              unfold maxLen at k2
              clear hs4 hz hz' b4 HF hO hK hB c0 c1 ho4
              go_wp2
              go_loopw [9, 11] (fun s i wr => ∃ t : Nat, t ≤ zs.length ∧ i = .int .i64 t ∧ s = .int .i64 (sumI ((zs.take t).map (lv lev))) ∧ wr = w4) (fun _ i _ => zs.length - (intOf i).toNat)
              case atStart => exact ⟨0, Nat.zero_le _, rfl, rfl, rfl⟩
              case round =>
                obtain ⟨t, ht, rfl, rfl, hwr⟩ := hrel
                rw [hwr]
                clear hwr wr
                by_cases htl : t < zs.length
                · rcases k3 with k3 | ⟨bh, oh, rfl, k4⟩
                  · subst k3; simp at htl
                  have d0 := k4 t htl
                  have hzr := HZR.out _ (List.getElem_mem htl)
                  have hge : zs.getD t 0 = zs[t] := by simp [List.getElem?_eq_getElem htl]
                  rw [hge] at d0
                  obtain ⟨X, hX⟩ := Int.eq_ofNat_of_zero_le hzr.1
                  rw [hX] at d0 hzr
                  have hXl : X < lev.length := by omega
                  rcases u3 with u3 | ⟨bu, ou, rfl, u4⟩
                  · subst u3; simp at hXl
                  have d1 : w4.cell? ⟨bu, ou + X, none⟩ = some (.int .i64 (lev.getD X 0)) := by rw [HB4.out.cell (block_lt_of_cell (u4 X hXl))]; exact u4 X hXl
                  obtain ⟨y, hy⟩ : ∃ y, lev.getD X 0 = y := ⟨_, rfl⟩
                  rw [hy] at d1
                  have hss := sum_succ lev zs t htl
                  have hlvy : lv lev zs[t] = y := by rw [lv, hX]; simpa using hy
                  rw [hlvy] at hss
                  have hyb := lv_bd HLV.out zs[t]
                  rw [hlvy] at hyb
                  have hsb := sum_bd HLV.out (zs.take t)
                  have htt : (zs.take t).length ≤ 40 := by simp; omega
                  obtain ⟨s, hs⟩ : ∃ s, sumI ((zs.take t).map (lv lev)) = s := ⟨_, rfl⟩
                  rw [hs] at hsb hss ⊢
                  have hsb' : -1310680 ≤ s ∧ s ≤ 1310680 := by omega
                  have HSS : Hid (sumI ((zs.take (t + 1)).map (lv lev)) = s + y) := hss
                  have htI : (t : Int) < (zs.length : Int) := by omega
                  have hXI : (X : Int) < (lev.length : Int) := by omega
                  clear k4 u4 hge hX hy hss hlvy hsb hs htt hzr
                  go_wp2
                  go_roundw
                  case rel => exact ⟨t + 1, by omega, by go_num, by rw [HSS.out], by trivial⟩
                  case measure => simp [intOf]; omega
                · obtain rfl : t = zs.length := by omega
                  obtain ⟨s, hs⟩ : ∃ s, sumI ((zs.take zs.length).map (lv lev)) = s := ⟨_, rfl⟩
                  have hfin : mixedTo cs lev (j + 1) = mixedTo cs lev j ++ [clip s] := by
                    rw [mixedTo_succ, ← HSUM.out, ← hs, List.take_length]
                  have HFIN : Hid (mixedTo cs lev (j + 1) = mixedTo cs lev j ++ [clip s]) := hfin
                  have hml := mixedTo_len cs lev j
                  have hsz4 : w.heap.size + 1 ≤ w4.heap.size := HK4.out.lt
                  rw [hs]
                  clear k3 hs hfin
                  go_wp2_with (first | (go_at_call 71; refine (clip_c _ _).mono ?_; rintro e wx ⟨rfl, hwx⟩; rw [hwx]; clear hwx wx) | (at_builtin; refine appI rfl _ _ rfl (w.heap.size + 1) _ _ rfl (HO4.out.alloc _) w4.heap.size (clip s) rfl (cell_box _ _ _ 0) (by omega) (by simp; omega) ?_))
                  intro v5 w5 ho5 hb5
                  have HB5 : Hid (Below w.heap.size w w5) := (HB4.out.alloc HB4.out.size _).trans (hb5.mono (Nat.le_succ _))
                  have HK5 : Hid (Blk w5 w.heap.size #[.int .i64 (lev.length : Int), .slice a0 rv.length cap] 26) := (HK4.out.alloc _).below hb5 (Nat.lt_succ_self _)
                  have HO5 : Hid (Ow .i64 3 (w.heap.size + 1) w5 v5 (mixedTo cs lev (j + 1))) := by
                    show Ow .i64 3 (w.heap.size + 1) w5 v5 (mixedTo cs lev (j + 1))
                    rw [HFIN.out]; exact ho5
                  clear ho5 hb5 HO4 HK4 HB4
                  go_wp2
                  go_roundw
                  case rel => exact ⟨j + 1, by omega, by go_num, HO5.out, HK5.out, HB5.out⟩
                  case measure => simp [intOf]; omega
            · obtain rfl : j = lev.length := by omega
              go_wp2
              go_ret2
              exact ⟨_, _, _, rfl, hO.out.mono (Nat.le_succ _), ⟨fun _ => ⟨rfl, rfl⟩, fun h => absurd ⟨HP.out, rfl, HLV.out⟩ h⟩, hB.out⟩
    · have hneb : ((lev.length : Int) != n) = true := by rw [bne_iff_ne]; exact hln
      have HN : Hid (¬ MixOk n cs lev) := fun h => hln h.2.1
      go_wp2
      go_ret2
      exact ⟨_, _, [], rfl, HO2.out.mono (Nat.le_succ _), ⟨fun h => absurd h HN.out, fun _ => ⟨rfl, rfl⟩⟩, HB2.out⟩
end Go.Proofs.Ytcbeaimpmjljjaa
