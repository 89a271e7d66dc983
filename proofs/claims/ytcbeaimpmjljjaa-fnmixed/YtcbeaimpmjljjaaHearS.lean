/- The contract of the model's Heard; no condition. -/
import Derived.Test.YtcbeaimpmjljjaaHear
import Derived.Test.YtcbeaimpmjljjaaApp
namespace Go.Proofs.Ytcbeaimpmjljjaa
open Go.RowKit Go.ChangeShapes Go.WideShapes Go.ChangeAt
set_option linter.unusedVariables false
set_option linter.unusedSimpArgs false
set_option maxRecDepth 8000
/-- what Heard is to answer -/
def HS (n : Int) (cs : Calls2) (l : Int) (zs : List Int) : Prop := (POk n cs → zs = asc n.toNat (hears cs l)) ∧ (¬ POk n cs → zs = [])
theorem HS.same {n : Int} {cs : Calls2} {l : Int} {a b : List Int} (ha : HS n cs l a) (hb : HS n cs l b) : a = b := by
  by_cases h : POk n cs
  · rw [ha.1 h, hb.1 h]
  · rw [ha.2 h, hb.2 h]
def HeardR (n : Int) (cs : Calls2) (l : Int) (w : World) (e : Ending) (w' : World) : Prop :=
  ∃ v' zs, e = .returned v' ∧ Ow .i64 3 w.heap.size w' v' zs ∧ HS n cs l zs ∧ Below w.heap.size w w'
theorem asc_nil (n : Nat) : asc n [] = [] := by simp [asc]
theorem asc_len (n : Nat) (l : List Int) : (asc n l).length ≤ n := by
  rw [asc]
  refine Nat.le_trans (List.length_filter_le _ _) ?_
  simp
theorem HS.len {n : Int} {cs : Calls2} {l : Int} {zs : List Int} (h : HS n cs l zs) : zs.length ≤ 40 := by
  by_cases hm : POk n cs
  · rw [h.1 hm]
    have h1 := asc_len n.toNat (hears cs l)
    have h2 := hm.2.1
    omega
  · rw [h.2 hm]; simp
set_option maxHeartbeats 3200000 in
theorem specHeard_c (n : Int) (v : Value) (cs : Calls2) (l : Int) (w : World) (h : RdC w v cs) :
   Calls Try.prog 25 #[.agg #[.int .i64 n, v], .int .i64 l] w (HeardR n cs l w) := by
  have hb : Below w.heap.size w ((w.alloc (Obj.cells #[.int .i64 n, v] 26)).alloc (Obj.cells #[] 3)) := ((Below.refl _ _).alloc (Nat.le_refl _) _).alloc (by simp) _
  have HH : Hid (RdC ((w.alloc (Obj.cells #[.int .i64 n, v] 26)).alloc (Obj.cells #[] 3)) v cs) := h.below hb
  have HB : Hid (Below w.heap.size w ((w.alloc (Obj.cells #[.int .i64 n, v] 26)).alloc (Obj.cells #[] 3))) := hb
  have HK : Hid (Blk ((w.alloc (Obj.cells #[.int .i64 n, v] 26)).alloc (Obj.cells #[] 3)) w.heap.size #[.int .i64 n, v] 26) := (Blk.new _ _ _).alloc _
  have HO : Hid (Ow .i64 3 (w.heap.size + 1) ((w.alloc (Obj.cells #[.int .i64 n, v] 26)).alloc (Obj.cells #[] 3)) (.slice (some ⟨w.heap.size + 1, 0, none⟩) 0 0) []) := by
    have := Ow.empty .i64 3 (w.heap.size + 1) (w.alloc (Obj.cells #[.int .i64 n, v] 26)) (by simp)
    rw [show (w.alloc (Obj.cells #[.int .i64 n, v] 26)).heap.size = w.heap.size + 1 by simp] at this
    exact this
  have HRD : Hid (RdC w v cs) := h
  obtain ⟨rv, hrl, ⟨a0, cap, rfl, h1, h2, h3⟩, hrc⟩ := h
  have HRC : Hid (∀ i (h : i < cs.length) (h' : i < rv.length), rv[i].1 = .bool cs[i].1 ∧ Rp lf lg w rv[i].2 cs[i].2) := hrc
  have HRL : Hid (rv.length = cs.length) := hrl
  unfold maxLen at h2
  clear hb hrc hrl
  go_enter Try.func25, Try.ntmps25
  go_wp2_with (fail)
  refine (ok_c n _ cs _ HH.out).mono ?_
  rintro e w2 ⟨r, rfl, hr, b2⟩
  have HR : Hid (r = true ↔ POk n cs) := hr
  have HB2 : Hid (Below w.heap.size w w2) := belowCall HB.out b2 HB.out.size
  have HK2 : Hid (Blk w2 w.heap.size #[.int .i64 n, .slice a0 rv.length cap] 26) := HK.out.below b2 (by simp; omega)
  have HO2 : Hid (Ow .i64 3 (w.heap.size + 1) w2 (.slice (some ⟨w.heap.size + 1, 0, none⟩) 0 0) []) := HO.out.below b2
  have HH2 : Hid (RdC w2 (.slice a0 rv.length cap) cs) := HH.out.below b2
  have c0 : w2.cell? ⟨w.heap.size, 0, none⟩ = some (.int .i64 n) := by have := HK2.out.cell 0; simpa using this
  have c1 : w2.cell? ⟨w.heap.size, 1, none⟩ = some (.slice a0 rv.length cap) := by have := HK2.out.cell 1; simpa using this
  clear hr b2 HB HK HO HH
  cases r with
  | false =>
    have HN : Hid (¬ POk n cs) := fun h => by have := HR.out.2 h; cases this
    clear HR
    go_wp2
    go_ret
    exact ⟨_, [], rfl, HO2.out.mono (Nat.le_succ _), ⟨fun h => absurd h HN.out, fun _ => rfl⟩, HB2.out⟩
  | true =>
    have HP : Hid (POk n cs) := HR.out.1 rfl
    clear HR
    go_wp2_with (fail)
    refine (find_c n _ cs l _ HH2.out).mono ?_
    rintro e w3 ⟨fi, fk, rfl, hf, b3⟩
    obtain ⟨rfl, rfl⟩ := found_eq hf
    have HB3 : Hid (Below w.heap.size w w3) := belowCall HB2.out b3 HB2.out.size
    have HK3 : Hid (Blk w3 w.heap.size #[.int .i64 n, .slice a0 rv.length cap] 26) := HK2.out.below b3 HK2.out.lt
    have HO3 : Hid (Ow .i64 3 (w.heap.size + 1) w3 (.slice (some ⟨w.heap.size + 1, 0, none⟩) 0 0) []) := HO2.out.below b3
    have HH3 : Hid (RdC w3 (.slice a0 rv.length cap) cs) := HH2.out.below b3
    clear c0 c1
    have c0 : w3.cell? ⟨w.heap.size, 0, none⟩ = some (.int .i64 n) := by have := HK3.out.cell 0; simpa using this
    have c1 : w3.cell? ⟨w.heap.size, 1, none⟩ = some (.slice a0 rv.length cap) := by have := HK3.out.cell 1; simpa using this
    clear hf b3 HB2 HK2 HO2 HH2
    cases hca : callAt cs l with
    | none =>
      have e1 : cidx cs l = -1 := by simp [cidx, hca]
      have e2 : lidx cs l = -1 := by simp [lidx, hca]
      have HZ : Hid (HS n cs l []) := ⟨fun _ => by simp [hears, hca, asc_nil], fun _ => rfl⟩
      rw [e1, e2]
      clear hca e1 e2 h3
      go_wp2
      go_ret
      exact ⟨_, [], rfl, HO3.out.mono (Nat.le_succ _), HZ.out, HB3.out⟩
    | some i =>
      have i2 : i < cs.length := by
        rw [callAt, List.findIdx?_eq_some_iff_getElem] at hca
        exact hca.1
      have i1 : i < rv.length := by have h := HRL.out; omega
      rcases h3 with h3 | ⟨b, off, rfl, h4⟩
      · subst h3; simp at i1
      obtain ⟨c, hc⟩ : ∃ c, cs[i] = c := ⟨_, rfl⟩
      obtain ⟨k, hk⟩ : ∃ k, legAt c.2 l = some k := by
        have := hca
        rw [callAt, List.findIdx?_eq_some_iff_getElem] at this
        obtain ⟨_, h1, _⟩ := this
        rw [hc] at h1
        exact Option.isSome_iff_exists.1 h1
      obtain ⟨hkl, hke⟩ := legAt_some hk
      have hg : cs.getD i (false, []) = c := by simp [List.getElem?_eq_getElem i2, hc]
      have e1 : cidx cs l = i := by simp [cidx, hca]
      have e2 : lidx cs l = k := by simp only [lidx, hca, hg, plc, hk]
      have hE := HRC.out i i2 i1
      rw [hc] at hE
      have hR2 := hE.2
      obtain ⟨a2, cap2, e3, g1, g2, g3⟩ := hE.2
      rcases g3 with g3 | ⟨b2, off2, rfl, g4⟩
      · rw [g3] at hkl; simp at hkl
      unfold maxLen at g2
      have HLEG : Hid (∀ t (h : t < c.2.length), w.cell? ⟨b2, off2 + t * 2 + 1, none⟩ = some (.bool c.2[t].2)) := fun t ht => (g4 t ht).2
      have hbb : b < w.heap.size := block_lt_of_cell (h4 i i1).1
      have hbb2 : b2 < w.heap.size := block_lt_of_cell (g4 k hkl).1
      obtain ⟨pk, hpk⟩ : ∃ pk, c.1 = pk := ⟨_, rfl⟩
      obtain ⟨hd, hhd⟩ : ∃ hd, c.2[k].2 = hd := ⟨_, rfl⟩
      have d0 : w3.cell? ⟨b, off + i * 2, none⟩ = some (.bool pk) := by rw [HB3.out.cell hbb, (h4 i i1).1, hE.1, hpk]
      have d1w : w.cell? ⟨b, off + i * 2 + 1, none⟩ = some (.slice (some ⟨b2, off2, none⟩) c.2.length cap2) := by rw [(h4 i i1).2, e3]
      have d1 : w3.cell? ⟨b, off + i * 2 + 1, none⟩ = some (.slice (some ⟨b2, off2, none⟩) c.2.length cap2) := by rw [HB3.out.cell hbb]; exact d1w
      have d2 : w3.cell? ⟨b2, off2 + k * 2 + 1, none⟩ = some (.bool hd) := by rw [HB3.out.cell hbb2, ← hhd]; exact HLEG.out k hkl
      have HHD : Hid (heldAt c.2 l = hd) := by
        show heldAt c.2 l = hd
        rw [heldAt, hk]; simp [List.getElem?_eq_getElem hkl, hhd]
      have HPK : Hid (c.1 = pk) := hpk
      have HHE : Hid (hears cs l = if c.1 || heldAt c.2 l then [] else others l c.2) := (by simp only [hears, hca, hg] : hears cs l = if c.1 || heldAt c.2 l then [] else others l c.2)
      have HCA : Hid (callAt cs l = some i ∧ cs[i] = c) := ⟨hca, hc⟩
      have hki : (k : Int) < (c.2.length : Int) := by omega
      have hii : (i : Int) < (rv.length : Int) := by omega
      rw [e1, e2]
      clear HRC h4 g4 hE hR2 hca hc hk hke hg e1 e2 e3 hpk hhd
      by_cases hno : pk = true ∨ hd = true
      · have HN : Hid (HS n cs l []) := by
          refine ⟨fun _ => ?_, fun _ => rfl⟩
          have : hears cs l = [] := by
            rw [HHE.out, HPK.out, HHD.out]
            rcases hno with h | h <;> simp [h]
          rw [this, asc_nil]
        cases pk with
        | true =>
          clear hno
          go_wp2
          go_ret
          exact ⟨_, [], rfl, HO3.out.mono (Nat.le_succ _), HN.out, HB3.out⟩
        | false =>
          obtain rfl : hd = true := by simpa using hno
          clear hno
          go_wp2
          go_ret
          exact ⟨_, [], rfl, HO3.out.mono (Nat.le_succ _), HN.out, HB3.out⟩
      · obtain rfl : pk = false := by cases pk <;> simp_all
        obtain rfl : hd = false := by cases hd <;> simp_all
        have HMEM : Hid (∀ x, x ∈ hears cs l ↔ x ≠ l ∧ callAt cs x = some i ∧ heldAt c.2 x = false) := by
          intro x
          have := mem_hears HP.out (x := x) HCA.out.1 i2 (by rw [HCA.out.2]; exact HPK.out) (by rw [HCA.out.2]; exact HHD.out)
          rw [HCA.out.2] at this; exact this
        have hn0 : 1 ≤ n ∧ n ≤ 40 := ⟨HP.out.1, HP.out.2.1⟩
        obtain ⟨m, rfl⟩ := Int.eq_ofNat_of_zero_le (show 0 ≤ n by omega)
        clear hno HHE HHD HPK
        go_wp2
        clear d0 d1 d2
        go_loopw [5, 8] (fun ov lw wr => ∃ j : Nat, j ≤ m ∧ lw = .int .i64 j ∧ Hid (Ow .i64 3 (w.heap.size + 1) wr ov (asc j (hears cs l))) ∧ Hid (Blk wr w.heap.size #[.int .i64 (m : Int), .slice (some ⟨b, off, none⟩) rv.length cap] 26) ∧ Hid (Below w.heap.size w wr)) (fun _ lw _ => m - (intOf lw).toNat)
        case atStart => exact ⟨0, Nat.zero_le _, rfl, (show Ow .i64 3 (w.heap.size + 1) w3 _ (asc 0 (hears cs l)) from (show asc 0 (hears cs l) = [] by simp [asc]) ▸ HO3.out), HK3.out, HB3.out⟩
        case round =>
          obtain ⟨j, hj, rfl, hO, hK, hB⟩ := hrel
          clear c0 c1 HO3 HB3 HK3 HH3
          have c0 : wr.cell? ⟨w.heap.size, 0, none⟩ = some (.int .i64 (m : Int)) := by have := hK.out.cell 0; simpa using this
          have c1 : wr.cell? ⟨w.heap.size, 1, none⟩ = some (.slice (some ⟨b, off, none⟩) rv.length cap) := by have := hK.out.cell 1; simpa using this
          by_cases hlt : j < m
          · have hlti : (j : Int) < (m : Int) := by omega
            have HF : Hid (Calls Try.prog 61 #[.agg #[.int .i64 (m : Int), .slice (some ⟨b, off, none⟩) rv.length cap], .int .i64 (j : Int)] wr fun e w' => ∃ i k : Int, e = .returned (.tuple #[.int .i64 i, .int .i64 k]) ∧ Found cs j i k ∧ Below wr.heap.size wr w') := find_c (m : Int) _ cs j wr (HRD.out.below hB.out)
            go_wp2_with (fail)
            refine HF.out.mono ?_
            rintro e w4 ⟨oi, ok, rfl, hf, b4⟩
            obtain ⟨rfl, rfl⟩ := found_eq hf
            have HB4 : Hid (Below w.heap.size w w4) := belowCall hB.out b4 hB.out.size
            have HK4 : Hid (Blk w4 w.heap.size #[.int .i64 (m : Int), .slice (some ⟨b, off, none⟩) rv.length cap] 26) := hK.out.below b4 hK.out.lt
            have HO4 : Hid (Ow .i64 3 (w.heap.size + 1) w4 u5 (asc j (hears cs l))) := hO.out.below b4
            clear c0 c1
            have c1 : w4.cell? ⟨w.heap.size, 1, none⟩ = some (.slice (some ⟨b, off, none⟩) rv.length cap) := by have := HK4.out.cell 1; simpa using this
            have d1 : w4.cell? ⟨b, off + i * 2 + 1, none⟩ = some (.slice (some ⟨b2, off2, none⟩) c.2.length cap2) := (HB4.out.cell hbb).trans d1w
            have hsz4 : w.heap.size + 1 ≤ w4.heap.size := HK4.out.lt
            clear hf b4 HF hO hK hB
            have hstep := asc_succ j (hears cs l)
            by_cases hm : (j : Int) ∈ hears cs l
            · obtain ⟨q1, q2, q3⟩ := (HMEM.out _).1 hm
              rw [if_pos hm] at hstep
              have HST : Hid (asc (j + 1) (hears cs l) = asc j (hears cs l) ++ [(j : Int)]) := hstep
              obtain ⟨kj, hkj⟩ : ∃ k, legAt c.2 (j : Int) = some k := by
                have := q2
                rw [callAt, List.findIdx?_eq_some_iff_getElem] at this
                obtain ⟨_, h1, _⟩ := this
                rw [HCA.out.2] at h1
                exact Option.isSome_iff_exists.1 h1
              obtain ⟨hkjl, -⟩ := legAt_some hkj
              have hg : cs.getD i (false, []) = c := by simp [List.getElem?_eq_getElem i2, HCA.out.2]
              have e1 : cidx cs (j : Int) = i := by simp [cidx, q2]
              have e2 : lidx cs (j : Int) = kj := by simp only [lidx, q2, hg, plc, hkj]
              have d3 : w4.cell? ⟨b2, off2 + kj * 2 + 1, none⟩ = some (.bool false) := by
                rw [HB4.out.cell hbb2, HLEG.out kj hkjl]
                rw [heldAt, hkj] at q3
                simp [List.getElem?_eq_getElem hkjl] at q3
                rw [q3]
              have hkji : (kj : Int) < (c.2.length : Int) := by omega
              have hal := asc_len j (hears cs l)
              rw [e1, e2]
              clear hm hstep q2 q3 hkj hg e1 e2 HMEM
              go_wp2_with (at_builtin; refine appI rfl _ _ rfl (w.heap.size + 1) _ _ rfl (HO4.out.alloc _) w4.heap.size (j : Int) rfl (cell_box _ _ _ 0) (by omega) (by simp; omega) ?_)
              intro v5 w5 ho5 hb5
              have HB5 : Hid (Below w.heap.size w w5) := (HB4.out.alloc HB4.out.size _).trans (hb5.mono (Nat.le_succ _))
              have HK5 : Hid (Blk w5 w.heap.size #[.int .i64 (m : Int), .slice (some ⟨b, off, none⟩) rv.length cap] 26) := (HK4.out.alloc _).below hb5 (Nat.lt_succ_self _)
              have HO5 : Hid (Ow .i64 3 (w.heap.size + 1) w5 v5 (asc (j + 1) (hears cs l))) := by
                show Ow .i64 3 (w.heap.size + 1) w5 v5 (asc (j + 1) (hears cs l))
                rw [HST.out]; exact ho5
              clear ho5 hb5 HO4 HK4 HB4 HST
              go_wp2
              go_roundw
              case rel => exact ⟨j + 1, by omega, by go_num, HO5.out, HK5.out, HB5.out⟩
              case measure => simp [intOf]; omega
            · rw [if_neg hm, List.append_nil] at hstep
              have HO5 : Hid (Ow .i64 3 (w.heap.size + 1) w4 u5 (asc (j + 1) (hears cs l))) := by
                show Ow .i64 3 (w.heap.size + 1) w4 u5 (asc (j + 1) (hears cs l))
                rw [hstep]; exact HO4.out
              by_cases hjl : (j : Int) = l
              · subst hjl
                clear hstep hm HO4 HMEM
                go_wp2
                go_roundw
                case rel => exact ⟨j + 1, by omega, by go_num, HO5.out, HK4.out, HB4.out⟩
                case measure => simp [intOf]; omega
              · by_cases hq : callAt cs (j : Int) = some i
                · obtain ⟨kj, hkj⟩ : ∃ k, legAt c.2 (j : Int) = some k := by
                    have := hq
                    rw [callAt, List.findIdx?_eq_some_iff_getElem] at this
                    obtain ⟨_, h1, _⟩ := this
                    rw [HCA.out.2] at h1
                    exact Option.isSome_iff_exists.1 h1
                  obtain ⟨hkjl, -⟩ := legAt_some hkj
                  have hg : cs.getD i (false, []) = c := by simp [List.getElem?_eq_getElem i2, HCA.out.2]
                  have e1 : cidx cs (j : Int) = i := by simp [cidx, hq]
                  have e2 : lidx cs (j : Int) = kj := by simp only [lidx, hq, hg, plc, hkj]
                  have d3 : w4.cell? ⟨b2, off2 + kj * 2 + 1, none⟩ = some (.bool true) := by
                    rw [HB4.out.cell hbb2, HLEG.out kj hkjl]
                    have h6 : heldAt c.2 (j : Int) = true := by
                      cases hh : heldAt c.2 (j : Int) with
                      | true => rfl
                      | false => exact absurd ((HMEM.out _).2 ⟨hjl, hq, hh⟩) hm
                    rw [heldAt, hkj] at h6
                    simp [List.getElem?_eq_getElem hkjl] at h6
                    rw [h6]
                  have hkji : (kj : Int) < (c.2.length : Int) := by omega
                  rw [e1, e2]
                  clear hm hstep hq hkj hg e1 e2 HMEM HO4
                  go_wp2
                  go_roundw
                  case rel => exact ⟨j + 1, by omega, by go_num, HO5.out, HK4.out, HB4.out⟩
                  case measure => simp [intOf]; omega
                · obtain ⟨x, hx⟩ : ∃ x, cidx cs (j : Int) = x := ⟨_, rfl⟩
                  have hxi : ¬ x = (i : Int) := fun e => hq (by
                    rw [← hx, cidx] at e
                    cases hcc : callAt cs (j : Int) with
                    | none => rw [hcc] at e; simp at e
                    | some t => rw [hcc] at e; exact congrArg some (by have e' : (t : Int) = (i : Int) := e; omega))
                  rw [hx]
                  clear hm hstep hq HMEM HO4 hx
                  go_wp2
                  go_roundw
                  case rel => exact ⟨j + 1, by omega, by go_num, HO5.out, HK4.out, HB4.out⟩
                  case measure => simp [intOf]; omega
          · obtain rfl : j = m := by omega
            go_wp2
            go_ret
            exact ⟨_, _, rfl, hO.out.mono (Nat.le_succ _), ⟨fun _ => by simp, fun h => absurd HP.out h⟩, hB.out⟩
end Go.Proofs.Ytcbeaimpmjljjaa
