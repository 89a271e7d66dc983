/- A register turns; no condition. -/
import Derived.Test.YtomgdlnpajfjhaaSms
import Derived.Test.YtomgdlnpajfjhaaMixT
import Derived.Test.YtomgdlnpajfjhaaDws
namespace Go.Proofs.Ytomgdlnpajfjhaa
open Go.RowKit Go.ChangeShapes Go.WideShapes Go.ChangeAt
set_option linter.unusedVariables false
set_option linter.unusedSimpArgs false
set_option maxRecDepth 8000

/-- the states of the training's register -/
def stL : List Int := [5, 22, 11, 17, 28, 14, 7, 23, 31, 27, 25, 24, 12, 6, 3, 21, 30, 15, 19, 29, 26, 13, 18, 9, 16, 8, 4]
def st (k : Nat) : Int := stL.getD k 0
/-- the next state of a register -/
def nxt (s t : Int) : Int := if s % 2 = 1 then bits .xor .i64 (s / 2) t else s / 2
theorem st_step : ∀ k, k < 26 → st (k + 1) = nxt (st k) 20 := by decide +kernel
theorem st_bd : ∀ k, k < 27 → 0 ≤ st k ∧ st k ≤ 31 := by decide +kernel
/-- 1 or -1, in single precision -/
def sgB (b : Int) : Nat := if b = 1 then 1065353216 else 3212836864
/-- the training -/
def trL : List (Nat × Nat) := (List.range 26).map fun k => (sgB (st k % 2), sgB (st k % 2))
theorem trL_len : trL.length = 26 := by decide +kernel
theorem trL_at (k : Nat) (h : k < trL.length) : trL[k] = (sgB (st k % 2), sgB (st k % 2)) := by simp [trL]
/-- singles in a row -/
def cpC (p : Nat × Nat) : List Value := [.complex .f32 p.1 p.2]
theorem cpC_len : ∀ p, (cpC p).length = 1 := fun _ => rfl
theorem infoCp : (Try.prog.info? 55).map (fun i => (i.zero, i.size, i.bytes)) = some (some (.complex .f32 0 0), 1, 8) := by kernel_rfl
theorem signOf_c (b : Int) (w : World) : Calls Try.prog 26 #[.int .i64 b] w fun e w' => e = .returned (.float .f32 (sgB b)) ∧ w' = w := by
  by_cases h : b = 1
  · have HE : Hid (sgB b = 1065353216) := by show _ = _; unfold sgB; rw [if_pos h]
    have hb : (b == 1) = true := by simp [h]
    clear h
    go_enter Try.func26, Try.ntmps26
    go_wp2
    go_ret
    exact ⟨by rw [HE.out]; rfl, rfl⟩
  · have HE : Hid (sgB b = 3212836864) := by show _ = _; unfold sgB; rw [if_neg h]
    have hb : (b == 1) = false := by simp [h]
    clear h
    go_enter Try.func26, Try.ntmps26
    go_wp2
    go_ret
    exact ⟨by rw [HE.out]; rfl, rfl⟩
theorem grown_drewN' {w w' : World} {row : Option Nat} (h : w.grownBy w' row) : w.grownBy w'.drew row := ⟨h.os, h.tape, h.output, h.size, h.block⟩
set_option maxHeartbeats 3200000 in
theorem turn_c (g : Nat) (s t : Int) (w : World) (h : Blk w g #[.int .i64 s, .int .i64 t] 82) (s0 : 0 ≤ s) (s1 : s ≤ 65535) :
   Calls Try.prog 50 #[.pointer (some ⟨g, 0, none⟩)] w fun e w' => e = .returned (.int .i64 (s % 2)) ∧ Blk w' g #[.int .i64 (nxt s t), .int .i64 t] 82 ∧ w.grownBy w' (some g) := by
  have HK : Hid (Blk w g #[.int .i64 s, .int .i64 t] 82) := h
  have c0 := h.cell 0
  have c1 := h.cell 1
  have f0 := h.frozen 0
  simp at c0 c1
  have hm : s.tmod 2 = s % 2 := Int.tmod_eq_emod_of_nonneg s0
  have hq : s.tdiv 2 = s / 2 := Int.tdiv_eq_ediv_of_nonneg s0
  clear h
  by_cases hb : s % 2 = 1
  · have HN : Hid (nxt s t = bits .xor .i64 (s / 2) t) := by show _ = _; unfold nxt; rw [if_pos hb]
    have HBB : Hid (s % 2 = 1) := hb
    have hbb : (s % 2 == 1) = true := by simp [hb]
    obtain ⟨W1, hW1⟩ : ∃ W, w.setCell ⟨g, 0, none⟩ (.int .i64 (s / 2)) = W := ⟨_, rfl⟩
    have HK1 : Hid (Blk W1 g #[.int .i64 (s / 2), .int .i64 t] 82) := by rw [← hW1]; exact HK.out.set 0 _
    have HG1 : Hid (w.grownBy W1 (some g)) := by rw [← hW1]; exact grown_set' _ _ _ _
    have HW1 : Hid (w.setCell ⟨g, 0, none⟩ (.int .i64 (s / 2)) = W1) := hW1
    clear hb hW1
    obtain ⟨S, hS⟩ : ∃ S : World → Prop, ∀ W, S W ↔ Blk W g #[.int .i64 (s / 2), .int .i64 t] 82 := ⟨_, fun _ => Iff.rfl⟩
    have y0 : ∀ W : At S, W.wd.cell? ⟨g, 0, none⟩ = some (.int .i64 (s / 2)) := fun W => by have := ((hS _).1 W.ok).cell 0; simpa using this
    have y1 : ∀ W : At S, W.wd.cell? ⟨g, 1, none⟩ = some (.int .i64 t) := fun W => by have := ((hS _).1 W.ok).cell 1; simpa using this
    have HSD : Hid (S W1.drew) := (hS _).2 HK1.out.drew
    have ne : Nonempty (At S) := ⟨⟨_, HSD.out⟩⟩
    clear hS
    go_enter Try.func50, Try.ntmps50
    go_wp2
    rw [HW1.out]
    refine region_mixT [true, true, true, true, true, true, true, true, true, true, true, false] 11 0 S (by kernel_rfl) rfl (by kernel_rfl) (fun _ _ _ _ _ h => h) HSD.out ?_
    simp only [selT, selF]
    try simp only [Act.put]
    repeat (go_big_quiet_step (fail))
    refine wpQuiet_nil ?_
    clear y0 y1 ne HSD
    have k0 := HK1.out.drew.cell 0
    have k1 := HK1.out.drew.frozen 0
    simp at k0
    refine tail_end ?_
    go_wp2
    go_ret
    refine ⟨by rw [HBB.out]; first | rfl | simp_all, ?_, ?_⟩
    · rw [HN.out]
      exact HK1.out.drew.set 0 _
    · exact grown_trans (grown_drewN' HG1.out) (grown_set' _ _ _ _)
  · have h0 : s % 2 = 0 := by omega
    have HN : Hid (nxt s t = s / 2) := by show _ = _; unfold nxt; rw [if_neg hb]
    have HBB : Hid (s % 2 = 0) := h0
    have hbb : (s % 2 == 1) = false := by simp [h0]
    clear hb h0
    go_enter Try.func50, Try.ntmps50
    go_wp2
    go_ret
    exact ⟨by first | rfl | simp_all, by rw [HN.out]; exact HK.out.set 0 _, grown_set' _ _ _ _⟩

end Go.Proofs.Ytomgdlnpajfjhaa
namespace Go.Proofs.Ytomgdlnpajfjhaa
open Go.RowKit Go.ChangeShapes Go.WideShapes Go.ChangeAt
set_option linter.unusedVariables false
set_option linter.unusedSimpArgs false
set_option maxRecDepth 8000

theorem trF_len {T : List (Nat × Nat)} (hT : T.length = 26) (j : Nat) (h : j ≤ 26) : (filg ((0, 0) : Nat × Nat) T j).length = 26 := by rw [filg_len _ _ _ (by rw [hT]; exact h), hT]
set_option maxHeartbeats 6400000 in
theorem training_c (w : World) : Calls Try.prog 29 #[] w fun e w' => ∃ v', e = .returned v' ∧ Og 1 cpC 55 w.heap.size w' v' trL ∧ Below w.heap.size w w' := by
  obtain ⟨T, hT⟩ : ∃ T, trL = T := ⟨_, rfl⟩
  have HTL : Hid (T.length = 26) := by show T.length = 26; rw [← hT]; exact trL_len
  have HTA : Hid (∀ k (h : k < T.length), T[k] = (sgB (st k % 2), sgB (st k % 2))) := by show ∀ k (h : k < T.length), T[k] = _; rw [← hT]; exact trL_at
  rw [hT]
  clear hT
  have hst := storeC
  obtain ⟨i0, hi, hz0, hz1, hz2⟩ := info_parts infoCp
  obtain ⟨P, hP⟩ : ∃ P, w.heap.size = P := ⟨_, rfl⟩
  have HP : Hid (w.heap.size = P) := hP
  obtain ⟨W0, hW0⟩ : ∃ W, w.alloc (Obj.cells #[.int .i64 5, .int .i64 20] 82) = W := ⟨_, rfl⟩
  have HW0 : Hid (w.alloc (Obj.cells #[.int .i64 5, .int .i64 20] 82) = W0) := hW0
  have HK0 : Hid (Blk W0 P #[.int .i64 (st 0), .int .i64 20] 82) := by rw [← hW0, ← hP]; exact Blk.new _ _ _
  have HS0 : Hid (W0.heap.size = P + 1) := by show W0.heap.size = P + 1; rw [← hW0, ← hP]; simp
  have HB0 : Hid (Below P w W0) := by rw [← hW0, ← hP]; exact (Below.refl _ _).alloc (Nat.le_refl _) _
  clear hW0 hP
  go_enter Try.func29, Try.ntmps29
  rw [HP.out]
  go_wp2_with (at_make; rw [HW0.out]; refine wpList_make_full _ rfl _ _ 54 rfl W0.heap.size 55 i0 (.complex .f32 0 0) 1 Try.underlying54 hi hz0 hz1 .i64 .i64 _ _ 26 rfl rfl rfl rfl (by rw [hz2]; omega) (by unfold maxLen; omega) (Nat.le_refl _) ?_)
  intro w1 ho hg
  rw [HS0.out] at ho ⊢
  rw [HP.out]
  have hx : w1.ownsRow (P + 1) 55 1 (.slice (some ⟨P + 1, 0, none⟩) 26 26) 26 ((filg ((0, 0) : Nat × Nat) T 0).flatMap cpC) := by
    have e : (filg ((0, 0) : Nat × Nat) T 0).flatMap cpC = (madeCells #[.complex .f32 0 0] 26).toList := by
      have := fm_rep cpC_len (by decide) ((0, 0) : Nat × Nat) #[.complex .f32 0 0] rfl 26
      rw [show (26 : Nat) = 26 * 1 from rfl, this]; simp [filg, HTL.out]
    rw [e]; exact ho
  have HX : Hid (w1.ownsRow (P + 1) 55 1 (.slice (some ⟨P + 1, 0, none⟩) 26 26) 26 ((filg ((0, 0) : Nat × Nat) T 0).flatMap cpC)) := hx
  have HB1 : Hid (Below P w w1) := HB0.out.trans (grown_below hg (by rw [HS0.out]; omega) (by simp))
  have HK1 : Hid (Blk w1 P #[.int .i64 (st 0), .int .i64 20] 82) := by
    have := HK0.out
    rw [Blk, hg.block P (by rw [HS0.out]; omega) (by simp)]; exact this
  clear hx ho hg
  go_wp2
  go_loopw [7] (fun i wr => ∃ j : Nat, j ≤ 26 ∧ i = .int .i64 j ∧ Hid (wr.ownsRow (P + 1) 55 1 (.slice (some ⟨P + 1, 0, none⟩) 26 26) 26 ((filg ((0, 0) : Nat × Nat) T j).flatMap cpC)) ∧ Hid (Blk wr P #[.int .i64 (st j), .int .i64 20] 82) ∧ Hid (Below P w wr)) (fun i _ => 26 - (intOf i).toNat)
  case atStart => exact ⟨0, by omega, rfl, HX.out, HK1.out, HB1.out⟩
  case round =>
    obtain ⟨j, hj, rfl, hO, hK, hB⟩ := hrel
    clear HX HK1 HB1
    by_cases hlt : j < 26
    case neg =>
      obtain rfl : j = 26 := by omega
      have HOF : Hid (Og 1 cpC 55 P wr (.slice (some ⟨P + 1, 0, none⟩) 26 26) T) := by
        have h1 := hO.out
        rw [show filg ((0, 0) : Nat × Nat) T 26 = T by have := filg_full ((0, 0) : Nat × Nat) T; rw [HTL.out] at this; exact this] at h1
        have h2 : Og 1 cpC 55 (P + 1) wr (.slice (some ⟨P + 1, 0, none⟩) 26 26) T := by rw [Og, HTL.out]; exact h1
        exact h2.mono (by omega)
      clear hO hlt hj
      go_wp2
      go_ret
      exact ⟨_, rfl, HOF.out, hB.out⟩
    case pos =>
    have hjl : j < T.length := by rw [HTL.out]; exact hlt
    have sb := st_bd j (by omega)
    go_wp2_with (fail)
    refine (turn_c P (st j) 20 _ hK.out sb.1 (by omega)).mono ?_
    rintro e w2 ⟨rfl, k2, g2⟩
    have HK2 : Hid (Blk w2 P #[.int .i64 (st (j + 1)), .int .i64 20] 82) := by rw [st_step j hlt]; exact k2
    have HB2 : Hid (Below P w w2) := hB.out.trans (grown_below g2 (by rw [← HP.out]; exact hB.out.size) (fun k e => by cases e; exact Nat.le_refl _))
    have ho2 : w2.ownsRow (P + 1) 55 1 (.slice (some ⟨P + 1, 0, none⟩) 26 26) 26 ((filg ((0, 0) : Nat × Nat) T j).flatMap cpC) := World.ownsRow.kept (row := some P) hO.out g2 (by simp [Value.ownBlock])
    have HO2 : Hid (w2.ownsRow (P + 1) 55 1 (.slice (some ⟨P + 1, 0, none⟩) 26 26) 26 ((filg ((0, 0) : Nat × Nat) T j).flatMap cpC)) := ho2
    clear k2 g2 hK hB hO ho2 sb
    go_wp2_with (fail)
    refine (signOf_c _ _).mono ?_
    rintro e w3 ⟨rfl, hw⟩
    rw [hw]
    clear hw w3
    obtain ⟨u, hu⟩ : ∃ u, sgB (st j % 2) = u := ⟨_, rfl⟩
    rw [hu]
    have hta : T[j] = (u, u) := by rw [HTA.out j hjl, hu]
    have hfl := trF_len HTL.out j (by omega)
    have hOg : Og 1 cpC 55 (P + 1) w2 (.slice (some ⟨P + 1, 0, none⟩) (filg ((0, 0) : Nat × Nat) T j).length 26) (filg ((0, 0) : Nat × Nat) T j) := by rw [Og, hfl]; exact HO2.out
    obtain ⟨y0, hd0⟩ : ∃ u, w2.cell? ⟨P + 1, j, none⟩ = some u := ⟨_, by have := (HO2.out.cellAt (j * 1 + 0) (by omega)).trans (fm_at cpC_len (filg ((0, 0) : Nat × Nat) T j) j 0 (by omega) (by decide)); rw [Nat.mul_one, Nat.add_zero] at this; exact this⟩
    have hf0 := HO2.out.frozenAt j
    have hS := own_setg cpC_len hOg j (by omega) T[j]
    rw [filg_set, Og, hfl, trF_len HTL.out _ (by omega), hta] at hS
    simp only [setW, cpC, Nat.mul_one] at hS
    have HS : Hid _ := hS
    have HBn : Hid (Below P w (w2.setCell ⟨P + 1, j, none⟩ (.complex .f32 u u))) := HB2.out.setCell (by dsimp only; omega) _
    have HKn : Hid (Blk (w2.setCell ⟨P + 1, j, none⟩ (.complex .f32 u u)) P #[.int .i64 (st (j + 1)), .int .i64 20] 82) := HK2.out.other _ _ (by dsimp only; omega)
    have hji : (j : Int) < 26 := by omega
    clear hu hta hfl hOg hS HO2 HB2 HK2 hjl
    go_wp2
    go_roundw
    case rel => exact ⟨j + 1, by omega, by go_num, HS.out, HKn.out, HBn.out⟩
    case measure => simp [intOf]; omega
set_option maxHeartbeats 6400000 in
theorem samplesOf_c (v : Value) (ls : List (Nat × Nat)) (w : World) (h : Rg 1 cpC w v ls) (hn : ls.length ≤ 1048576) : Calls Try.prog 27 #[v] w fun e w' => ∃ v', e = .returned v' ∧ Og 2 smC 27 w.heap.size w' v' ls ∧ Below w.heap.size w w' := by
  obtain ⟨a, cap, rfl, h1, h2, h3⟩ := h
  unfold maxLen at h2
  have hsf := storeF
  obtain ⟨i0, hi, hz0, hz1, hz2⟩ := info_parts infoSm
  go_enter Try.func27, Try.ntmps27
  go_wp2_with (at_make; refine wpList_make_full _ rfl _ _ 28 rfl w.heap.size 27 i0 (.agg #[.float .f32 0, .float .f32 0]) 2 Try.underlying28 hi hz0 hz1 .i64 .i64 _ _ ls.length rfl rfl rfl rfl (by rw [hz2]; omega) (by unfold maxLen; omega) (Nat.le_refl _) ?_)
  intro w1 ho hg
  have hx : w1.ownsRow w.heap.size 27 2 (.slice (some ⟨w.heap.size, 0, none⟩) ls.length ls.length) ls.length ((filg ((0, 0) : Nat × Nat) ls 0).flatMap smC) := by
    have e : (filg ((0, 0) : Nat × Nat) ls 0).flatMap smC = (madeCells #[.float .f32 0, .float .f32 0] (ls.length * 2)).toList := by rw [fm_rep smC_len (by decide) ((0, 0) : Nat × Nat) #[.float .f32 0, .float .f32 0] rfl ls.length]; simp [filg]
    rw [e]; exact ho
  have hb : Below w.heap.size w w1 := grown_below hg (Nat.le_refl _) (by simp)
  clear hg ho
  go_wp2
  go_loopw [11] (fun i wr => ∃ j : Nat, j ≤ ls.length ∧ i = .int .i64 j ∧ wr.ownsRow w.heap.size 27 2 (.slice (some ⟨w.heap.size, 0, none⟩) ls.length ls.length) ls.length ((filg ((0, 0) : Nat × Nat) ls j).flatMap smC) ∧ Below w.heap.size w wr) (fun i _ => ls.length - (intOf i).toNat)
  case atStart => exact ⟨0, Nat.zero_le _, rfl, hx, hb⟩
  case round =>
    obtain ⟨j, hj, rfl, hw, hbr⟩ := hrel
    clear hx hb
    by_cases hlt : j < ls.length
    · rcases h3 with h3 | ⟨b, off, rfl, h4⟩
      · subst h3; simp at hlt
      have hcb : b < w.heap.size := block_lt_of_cell (h4 j hlt 0 _ rfl)
      have hc := rangeAt_below (h4 j hlt) hbr hcb
      have d0 : wr.cell? ⟨b, off + j, none⟩ = some (.complex .f32 ls[j].1 ls[j].2) := by have := hc 0 _ rfl; rw [Nat.mul_one, Nat.add_zero] at this; exact this
      clear h4 hc
      go_wp2_with (fail)
      refine (sampleOf_c _ _ _).mono ?_
      rintro e w2 ⟨rfl, b2⟩
      have hw2 : w2.ownsRow w.heap.size 27 2 (.slice (some ⟨w.heap.size, 0, none⟩) ls.length ls.length) ls.length ((filg ((0, 0) : Nat × Nat) ls j).flatMap smC) := World.ownsRow.kept (row := none) hw ⟨b2.os, b2.tape, b2.output, b2.size, fun i hi _ => b2.block i hi⟩ (by simp [Value.ownBlock])
      have c2 := belowCall hbr b2 hbr.size
      have hfl := filg_len ((0, 0) : Nat × Nat) ls j hj
      have hO : Og 2 smC 27 w.heap.size w2 (.slice (some ⟨w.heap.size, 0, none⟩) (filg ((0, 0) : Nat × Nat) ls j).length ls.length) (filg ((0, 0) : Nat × Nat) ls j) := by rw [Og, hfl]; exact hw2
      obtain ⟨y0, hd0⟩ : ∃ u, w2.cell? ⟨w.heap.size, j * 2, none⟩ = some u := ⟨_, (hw2.cellAt (j * 2 + 0) (by omega)).trans (fm_at smC_len (filg ((0, 0) : Nat × Nat) ls j) j 0 (by omega) (by decide))⟩
      obtain ⟨y1, hd1⟩ : ∃ u, w2.cell? ⟨w.heap.size, j * 2 + 1, none⟩ = some u := ⟨_, (hw2.cellAt (j * 2 + 1) (by omega)).trans (fm_at smC_len (filg ((0, 0) : Nat × Nat) ls j) j 1 (by omega) (by decide))⟩
      have hf0 := hw2.frozenAt (j * 2)
      have hf1 := hw2.frozenAt (j * 2 + 1)
      have hS := own_setg smC_len hO j (by omega) ls[j]
      rw [filg_set, Og, hfl, filg_len _ _ _ (by omega)] at hS
      have c3 := below_setW c2 w.heap.size (j * 2) (Nat.le_refl _) (smC ls[j])
      simp only [setW, smC, Nat.add_assoc, Nat.reduceAdd] at hS c3
      have HS : Hid _ := hS
      have HC : Hid _ := c3
      clear hw hbr hw2 c2 b2 hO hS c3 hfl d0
      go_wp2
      go_roundw
      case rel => exact ⟨j + 1, by omega, by go_num, HS.out, HC.out⟩
      case measure => simp [intOf]; omega
    · obtain rfl : j = ls.length := by omega
      rw [filg_full] at hw
      clear h3
      go_wp2
      go_ret
      exact ⟨_, rfl, hw, hbr⟩
theorem trainI_c (w : World) : Calls Try.prog 40 #[] w fun e w' => ∃ v', e = .returned v' ∧ Og 2 smC 27 w.heap.size w' v' trL ∧ Below w.heap.size w w' := by
  go_enter Try.func40, Try.ntmps40
  go_wp2_with (fail)
  refine (training_c w).mono ?_
  rintro e w1 ⟨v1, rfl, o1, b1⟩
  have HR : Hid (Rg 1 cpC w1 v1 trL) := o1.rd cpC_len
  have HB : Hid (Below w.heap.size w w1) := b1
  clear o1 b1
  go_wp2_with (fail)
  refine (samplesOf_c v1 trL w1 HR.out (by rw [trL_len]; omega)).mono ?_
  rintro e w2 ⟨v2, rfl, o2, b2⟩
  have HO : Hid (Og 2 smC 27 w.heap.size w2 v2 trL) := o2.mono HB.out.size
  have HB2 : Hid (Below w.heap.size w w2) := belowCall HB.out b2 HB.out.size
  clear o2 b2
  go_wp2
  go_ret
  exact ⟨_, rfl, HO.out, HB2.out⟩

end Go.Proofs.Ytomgdlnpajfjhaa
namespace Go.Proofs.Ytomgdlnpajfjhaa
open Go.RowKit Go.ChangeShapes Go.WideShapes Go.ChangeAt
set_option linter.unusedVariables false
set_option linter.unusedSimpArgs false
set_option maxRecDepth 8000

theorem sgB_fi (a : Int) (h0 : 0 ≤ a) (h1 : a ≤ 1) : floatOfInt .f32 (2 * a - 1) = sgB a := by
  rcases (show a = 0 ∨ a = 1 by omega) with rfl | rfl <;> decide +kernel
set_option maxHeartbeats 1600000 in
theorem of15_c (a b : Int) (a0 : 0 ≤ a) (a1 : a ≤ 1) (b0 : 0 ≤ b) (b1 : b ≤ 1) (w : World) : Calls Try.prog 44 #[.int .i64 a, .int .i64 b] w fun e w' => e = .returned (.agg #[.float .f32 (sgB a), .float .f32 (sgB b)]) ∧ Below w.heap.size w w' := by
  have hsf := storeF
  have ha := sgB_fi a a0 a1
  have hb := sgB_fi b b0 b1
  obtain ⟨x, hx⟩ : ∃ x, sgB a = x := ⟨_, rfl⟩
  obtain ⟨y, hy⟩ : ∃ y, sgB b = y := ⟨_, rfl⟩
  rw [hx] at ha ⊢
  rw [hy] at hb ⊢
  clear hx hy
  go_enter Try.func44, Try.ntmps44
  go_wp2
  exact bodyPost_ret (results_cell_row rfl _ _ _ 27 _ (0, 0) _ rfl (Blk.new _ _ _) Try.underlying27 rfl sz26) rfl ⟨rfl, (Below.refl _ _).alloc (Nat.le_refl _) _⟩
set_option maxHeartbeats 6400000 in
theorem trainM_c (w : World) : Calls Try.prog 43 #[] w fun e w' => ∃ v', e = .returned v' ∧ Og 2 smC 27 w.heap.size w' v' trL ∧ Below w.heap.size w w' := by
  obtain ⟨T, hT⟩ : ∃ T, trL = T := ⟨_, rfl⟩
  have HTL : Hid (T.length = 26) := by show T.length = 26; rw [← hT]; exact trL_len
  have HTA : Hid (∀ k (h : k < T.length), T[k] = (sgB (st k % 2), sgB (st k % 2))) := by show ∀ k (h : k < T.length), T[k] = _; rw [← hT]; exact trL_at
  rw [hT]
  clear hT
  obtain ⟨P, hP⟩ : ∃ P, w.heap.size = P := ⟨_, rfl⟩
  have HP : Hid (w.heap.size = P) := hP
  obtain ⟨W0, hW0⟩ : ∃ W, w.alloc (Obj.cells #[] 27) = W := ⟨_, rfl⟩
  have HW0 : Hid (w.alloc (Obj.cells #[] 27) = W0) := hW0
  have HO0 : Hid (Og 2 smC 27 P W0 (.slice (some ⟨P, 0, none⟩) 0 0) (T.take 0)) := by rw [← hW0, ← hP]; exact World.ownsRow_lit w #[] 0 (Nat.le_refl _) (by simp) (by simp)
  have HB0 : Hid (Below P w W0) := by rw [← hW0, ← hP]; exact (Below.refl _ _).alloc (Nat.le_refl _) _
  clear hW0 hP
  go_enter Try.func43, Try.ntmps43
  rw [HP.out]
  go_wp2
  rw [HW0.out, HP.out]
  go_loopw [1, 2, 3] (fun o r i wr => ∃ (j : Nat) (o' : Value), j ≤ 26 ∧ i = .int .i64 j ∧ r = .int .i64 (st j) ∧ o' = o ∧ Hid (Og 2 smC 27 P wr o' (T.take j)) ∧ Hid (Below P w wr)) (fun _ _ i _ => 26 - (intOf i).toNat)
  case atStart => exact ⟨0, _, by omega, rfl, rfl, rfl, HO0.out, HB0.out⟩
  case round =>
    obtain ⟨j, o', hj, rfl, rfl, ho', hO, hB⟩ := hrel
    subst ho'
    clear HO0 HB0
    by_cases hlt : j < 26
    case neg =>
      obtain rfl : j = 26 := by omega
      have HOF := hO.out
      rw [show T.take 26 = T from List.take_of_length_le (by rw [HTL.out]; omega)] at HOF
      have HOF' : Hid (Og 2 smC 27 P wr o' T) := HOF
      clear hO hlt hj HOF
      go_wp2
      go_ret
      exact ⟨_, rfl, HOF'.out, hB.out⟩
    case pos =>
    have hjl : j < T.length := by rw [HTL.out]; exact hlt
    have sb := st_bd j (by omega)
    have sb0 := sb.1
    have sb1 := sb.2
    have hm : (st j).tmod 2 = st j % 2 := Int.tmod_eq_emod_of_nonneg sb0
    have hq : (st j).tdiv 2 = st j / 2 := Int.tdiv_eq_ediv_of_nonneg sb0
    have hstep := st_step j hlt
    obtain ⟨s, hs⟩ : ∃ s, st j = s := ⟨_, rfl⟩
    have hta : T[j] = (sgB (s % 2), sgB (s % 2)) := by rw [HTA.out j hjl, hs]
    rw [hs] at hm hq hstep sb0 sb1 ⊢
    have HST : Hid (st (j + 1) = nxt s 20) := hstep
    clear sb hs hstep
    go_wp2_with (fail)
    refine (of15_c (s % 2) (s % 2) (by omega) (by omega) (by omega) (by omega) _).mono ?_
    rintro e w2 ⟨rfl, b2⟩
    obtain ⟨u, hu⟩ : ∃ u, sgB (s % 2) = u := ⟨_, rfl⟩
    rw [hu] at hta ⊢
    have HO2 : Hid (Og 2 smC 27 P w2 o' (T.take j)) := hO.out.below b2
    have HB2 : Hid (Below P w w2) := hB.out.trans (b2.mono (by rw [← HP.out]; exact hB.out.size))
    have HTJ : Hid (T.take j ++ [(u, u)] = T.take (j + 1)) := by show _ = _; rw [← hta, List.take_append_getElem]
    obtain ⟨W3, hW3⟩ : ∃ W, w2.alloc (Obj.cells #[.float .f32 u, .float .f32 u] 27) = W := ⟨_, rfl⟩
    have HW3 : Hid (w2.alloc (Obj.cells #[.float .f32 u, .float .f32 u] 27) = W3) := hW3
    have ba : Below w2.heap.size w2 W3 := by rw [← hW3]; exact (Below.refl _ _).alloc (Nat.le_refl _) _
    have HO3 : Hid (Og 2 smC 27 P W3 o' (T.take j)) := HO2.out.below ba
    have HB3 : Hid (Below P w W3) := HB2.out.trans (ba.mono (by rw [← HP.out]; exact HB2.out.size))
    have HK3 : Hid (Blk W3 w2.heap.size #[.float .f32 u, .float .f32 u] 27) := by rw [← hW3]; exact Blk.new _ _ _
    have HS3 : Hid (P ≤ W3.heap.size) := by have := HB3.out.size; show P ≤ _; have := HP.out; omega
    clear b2 hO hB hta hu ba hW3 HO2 HB2
    go_wp2_with (at_builtin; rw [HW3.out]; refine appSm rfl _ _ rfl P _ (T.take j) rfl HO3.out w2.heap.size u u rfl HK3.out (by simp; omega) (by exact HS3.out) ?_)
    intro v6 w6 o6 g6
    have HO6 : Hid (Og 2 smC 27 P w6 v6 (T.take (j + 1))) := by rw [← HTJ.out]; exact o6
    have HB6 : Hid (Below P w w6) := HB3.out.trans (grown_below g6 HS3.out (fun k e => (HO3.out.lt k e).1))
    clear o6 g6 HK3 HS3 HO3 HB3 HW3
    by_cases hb : s % 2 = 1
    · have HN : Hid (st (j + 1) = bits .xor .i64 (s / 2) 20) := by show _ = _; rw [HST.out]; unfold nxt; rw [if_pos hb]
      have hbb : (s % 2 == 1) = true := by simp [hb]
      clear hb
      go_wp2
      go_roundw
      case rel => exact ⟨j + 1, _, by omega, by go_num, by rw [HN.out], rfl, HO6.out, HB6.out⟩
      case measure => simp [intOf]; omega
    · have HN : Hid (st (j + 1) = s / 2) := by show _ = _; rw [HST.out]; unfold nxt; rw [if_neg hb]
      have hbb : (s % 2 == 1) = false := by simp [hb]
      clear hb
      go_wp2
      go_roundw
      case rel => exact ⟨j + 1, _, by omega, by go_num, by rw [HN.out], rfl, HO6.out, HB6.out⟩
      case measure => simp [intOf]; omega

end Go.Proofs.Ytomgdlnpajfjhaa
