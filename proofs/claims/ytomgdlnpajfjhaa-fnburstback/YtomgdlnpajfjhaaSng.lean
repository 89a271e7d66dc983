/- Singles of samples, cut; no condition. -/
import Derived.Test.YtomgdlnpajfjhaaReg5
import Derived.Test.YtomgdlnpajfjhaaGna
import Derived.Laws.CopyOwn
namespace Go.Proofs.Ytomgdlnpajfjhaa
open Go.RowKit Go.ChangeShapes Go.WideShapes Go.ChangeAt
set_option linter.unusedVariables false
set_option linter.unusedSimpArgs false
set_option maxRecDepth 8000

set_option maxHeartbeats 6400000 in
theorem singles_c (v : Value) (ls : List (Nat × Nat)) (w : World) (h : Rg 2 smC w v ls) (hn : ls.length ≤ 1048576) : Calls Try.prog 30 #[v] w fun e w' => e = .returned (.slice (some ⟨w.heap.size, 0, none⟩) ls.length ls.length) ∧ Og 1 cpC 55 w.heap.size w' (.slice (some ⟨w.heap.size, 0, none⟩) ls.length ls.length) ls ∧ Below w.heap.size w w' := by
  obtain ⟨a, cap, rfl, h1, h2, h3⟩ := h
  unfold maxLen at h2
  have hsf := storeF
  have hst := storeC
  obtain ⟨i0, hi, hz0, hz1, hz2⟩ := info_parts infoCp
  go_enter Try.func30, Try.ntmps30
  go_wp2_with (at_make; refine wpList_make_full _ rfl _ _ 54 rfl w.heap.size 55 i0 (.complex .f32 0 0) 1 Try.underlying54 hi hz0 hz1 .i64 .i64 _ _ ls.length rfl rfl rfl rfl (by rw [hz2]; omega) (by unfold maxLen; omega) (Nat.le_refl _) ?_)
  intro w1 ho hg
  have hx : w1.ownsRow w.heap.size 55 1 (.slice (some ⟨w.heap.size, 0, none⟩) ls.length ls.length) ls.length ((filg ((0, 0) : Nat × Nat) ls 0).flatMap cpC) := by
    have e : (filg ((0, 0) : Nat × Nat) ls 0).flatMap cpC = (madeCells #[.complex .f32 0 0] ls.length).toList := by
      have := fm_rep cpC_len (by decide) ((0, 0) : Nat × Nat) #[.complex .f32 0 0] rfl ls.length
      rw [Nat.mul_one] at this
      rw [this]; simp [filg]
    rw [e]; exact ho
  have hb : Below w.heap.size w w1 := grown_below hg (Nat.le_refl _) (by simp)
  clear hg ho
  go_wp2
  go_loopw [11] (fun i wr => ∃ j : Nat, j ≤ ls.length ∧ i = .int .i64 j ∧ wr.ownsRow w.heap.size 55 1 (.slice (some ⟨w.heap.size, 0, none⟩) ls.length ls.length) ls.length ((filg ((0, 0) : Nat × Nat) ls j).flatMap cpC) ∧ Below w.heap.size w wr) (fun i _ => ls.length - (intOf i).toNat)
  case atStart => exact ⟨0, Nat.zero_le _, rfl, hx, hb⟩
  case round =>
    obtain ⟨j, hj, rfl, hw, hbr⟩ := hrel
    clear hx hb
    by_cases hlt : j < ls.length
    · rcases h3 with h3 | ⟨b, off, rfl, h4⟩
      · subst h3; simp at hlt
      have hcb : b < w.heap.size := block_lt_of_cell (h4 j hlt 0 _ rfl)
      have hc := rangeAt_below (h4 j hlt) hbr hcb
      obtain ⟨p, hp⟩ : ∃ p, ls[j].1 = p := ⟨_, rfl⟩
      obtain ⟨q, hq⟩ : ∃ q, ls[j].2 = q := ⟨_, rfl⟩
      have hpq : ls[j] = (p, q) := by rw [← hp, ← hq]
      have c0 : wr.cell? ⟨b, off + j * 2, none⟩ = some (.float .f32 p) := by have := hc 0 _ rfl; rw [hp] at this; exact this
      have c1 : wr.cell? ⟨b, off + j * 2 + 1, none⟩ = some (.float .f32 q) := by have := hc 1 _ rfl; rw [hq] at this; exact this
      obtain ⟨W1, hW1⟩ : ∃ W, wr.alloc (Obj.cells #[.float .f32 p, .float .f32 q] 27) = W := ⟨_, rfl⟩
      have HW1 : Hid (wr.alloc (Obj.cells #[.float .f32 p, .float .f32 q] 27) = W1) := hW1
      have ba : Below wr.heap.size wr W1 := by rw [← hW1]; exact (Below.refl _ _).alloc (Nat.le_refl _) _
      have hw1 : W1.ownsRow w.heap.size 55 1 (.slice (some ⟨w.heap.size, 0, none⟩) ls.length ls.length) ls.length ((filg ((0, 0) : Nat × Nat) ls j).flatMap cpC) := World.ownsRow.kept (row := none) hw ⟨ba.os, ba.tape, ba.output, ba.size, fun i hi _ => ba.block i hi⟩ (by simp [Value.ownBlock])
      have HO1 : Hid (W1.ownsRow w.heap.size 55 1 (.slice (some ⟨w.heap.size, 0, none⟩) ls.length ls.length) ls.length ((filg ((0, 0) : Nat × Nat) ls j).flatMap cpC)) := hw1
      have HB1 : Hid (Below w.heap.size w W1) := belowCall hbr ba hbr.size
      have HPQ : Hid (ls[j] = (p, q)) := hpq
      have hwl : w.heap.size < wr.heap.size := (World.ownsRow.lt hw w.heap.size rfl).2
      clear h4 hc hp hq hpq hw hbr ba hw1 hW1
      go_wp2_with (fail)
      rw [HW1.out]
      refine (inSingle_c _ _ _).mono ?_
      rintro e w2 ⟨rfl, b2⟩
      have hw2 : w2.ownsRow w.heap.size 55 1 (.slice (some ⟨w.heap.size, 0, none⟩) ls.length ls.length) ls.length ((filg ((0, 0) : Nat × Nat) ls j).flatMap cpC) := World.ownsRow.kept (row := none) HO1.out ⟨b2.os, b2.tape, b2.output, b2.size, fun i hi _ => b2.block i hi⟩ (by simp [Value.ownBlock])
      have c2 := belowCall HB1.out b2 HB1.out.size
      have hfl := filg_len ((0, 0) : Nat × Nat) ls j hj
      have hO : Og 1 cpC 55 w.heap.size w2 (.slice (some ⟨w.heap.size, 0, none⟩) (filg ((0, 0) : Nat × Nat) ls j).length ls.length) (filg ((0, 0) : Nat × Nat) ls j) := by rw [Og, hfl]; exact hw2
      obtain ⟨y0, hd0⟩ : ∃ u, w2.cell? ⟨w.heap.size, j, none⟩ = some u := ⟨_, by have := (hw2.cellAt (j * 1 + 0) (by omega)).trans (fm_at cpC_len (filg ((0, 0) : Nat × Nat) ls j) j 0 (by omega) (by decide)); rw [Nat.mul_one, Nat.add_zero] at this; exact this⟩
      have hf0 := hw2.frozenAt j
      have hS := own_setg cpC_len hO j (by omega) ls[j]
      rw [filg_set, Og, hfl, filg_len _ _ _ (by omega), HPQ.out] at hS
      have c3 : Below w.heap.size w (w2.setCell ⟨w.heap.size, j, none⟩ (.complex .f32 p q)) := c2.setCell (by dsimp only; omega) _
      simp only [setW, cpC, Nat.mul_one] at hS
      have HS : Hid _ := hS
      have HC : Hid _ := c3
      clear hw2 c2 b2 hO hS c3 hfl HO1 HB1 HPQ c0 c1
      go_wp2
      go_roundw
      case rel => exact ⟨j + 1, by omega, by go_num, HS.out, HC.out⟩
      case measure => simp [intOf]; omega
    · obtain rfl : j = ls.length := by omega
      rw [filg_full] at hw
      clear h3
      go_wp2
      go_ret
      exact ⟨rfl, hw, hbr⟩
theorem cpC_one {ls : List (Nat × Nat)} : ∀ u ∈ ls.flatMap cpC, u.oneCell' = true := by
  intro u hu
  obtain ⟨x, -, hx⟩ := List.mem_flatMap.1 hu
  simp only [cpC, List.mem_cons, List.not_mem_nil, or_false] at hx
  subst hx; rfl
theorem cp_len (ls : List (Nat × Nat)) : (ls.flatMap cpC).length = ls.length := by rw [fm_len cpC_len, Nat.mul_one]
theorem cp_pre {base b n cap k : Nat} {w : World} {ls : List (Nat × Nat)} (h : w.ownsRow base 55 1 (.slice (some ⟨b, 0, none⟩) n cap) n (ls.flatMap cpC)) (hn : ls.length = n) (hk : k ≤ n) : w.ownsRow base 55 1 (.slice (some ⟨b, 0, none⟩) k cap) k ((ls.take k).flatMap cpC) := by
  rcases h.2 with ⟨e, -⟩ | ⟨b', cap', cur, e, hb, hg, hnc, hcm, hcs, ht⟩
  · cases e
  · cases e
    refine ⟨by rw [cp_len]; simp; omega, .inr ⟨b, cap, cur, rfl, hb, hg, by omega, hcm, hcs, ?_⟩⟩
    have e1 : ls.flatMap cpC = (ls.take k).flatMap cpC ++ (ls.drop k).flatMap cpC := by rw [← List.flatMap_append, List.take_append_drop]
    have e2 : cur.toList.take (k * 1) = (cur.toList.take (n * 1)).take (k * 1) := by rw [List.take_take, Nat.min_eq_left (by omega)]
    have hl : ((ls.take k).flatMap cpC).length = k := by rw [cp_len]; simp; omega
    rw [e2, ht, e1, List.take_append_of_le_length (by omega), List.take_of_length_le (by omega)]
theorem zeroCp : ∀ w, (zeroValue 55).run Try.prog w = .ok (.complex .f32 0 0) w := fun w => by kernel_rfl
/-- what lies behind a row's end is cleared -/
theorem clearCp {w : World} (ty : TypeId) (base b m cap c : Nat) (ls : List (Nat × Nat)) (hown : w.ownsRow base 55 1 (.slice (some ⟨b, 0, none⟩) m cap) m (ls.flatMap cpC)) (hm : m + 26 ≤ cap) :
    ∃ w', (Builtin.clear_ #[54] ty #[.slice (some ⟨b, m, none⟩) 26 c]).run Try.prog w = .ok (.tuple #[]) w' ∧ w'.ownsRow base 55 1 (.slice (some ⟨b, 0, none⟩) m cap) m (ls.flatMap cpC) ∧ w.grownBy w' (some b) := by
  rcases hown.2 with ⟨e, -⟩ | ⟨b', cap', cur, e, hb, hg, hnc, hcm, hcs, ht⟩
  · cases e
  cases e
  have hst := run_storeCells_at Try.prog b m 55 (List.replicate 26 (.complex .f32 0 0)) 0 cur w hg (by simp; omega) (by intro u hu; rw [List.eq_of_mem_replicate hu]; rfl)
  have hz : (Builtin.zeroCells (Value.complex .f32 0 0).cells 26).toList = List.replicate 26 (.complex .f32 0 0) := by kernel_rfl
  refine ⟨w.setRow b (cur.toList.take (m + 0) ++ List.replicate 26 (Value.complex .f32 0 0) ++ cur.toList.drop (m + 0 + (List.replicate 26 (Value.complex .f32 0 0)).length)).toArray, ?_, ?_, ?_⟩
  · simp only [Builtin.clear_]
    simp only [run_underlying Try.underlying54, zeroCp, hz, Sem.run_bind, Sem.run_pure, Result.andThen_ok, hst, List.getElem?_toArray, List.getElem?_cons_zero]
  · refine ⟨hown.1, .inr ⟨b, cap, _, rfl, hb, setRow_heap w b cur _ 55 _ hg, hnc, hcm, ?_, ?_⟩⟩
    · simp; omega
    · rw [← ht]
      simp
      rw [List.take_append_of_le_length (by simp; omega), List.take_take, Nat.min_eq_left (by omega)]
  · exact ⟨rfl, rfl, rfl, by simp, fun k _ hk => setRow_other w b k _ (fun e => hk (by simp [e]))⟩
set_option maxHeartbeats 3200000 in
theorem delete_c (base b n k m : Nat) (ls : List (Nat × Nat)) (w : World) (hown : w.ownsRow base 55 1 (.slice (some ⟨b, 0, none⟩) n n) n (ls.flatMap cpC)) (hn : ls.length = n) (hm : m + 26 = n) (hk : k < m) (hnn : n ≤ 4194304) :
   Calls Try.prog 34 #[.slice (some ⟨b, 0, none⟩) n n, .int .i64 k, .int .i64 (k + 26)] w fun e w' => e = .returned (.slice (some ⟨b, 0, none⟩) m n) ∧ w'.ownsRow base 55 1 (.slice (some ⟨b, 0, none⟩) m n) m ((ls.take k ++ ls.drop (k + 26)).flatMap cpC) ∧ w.grownBy w' (some b) := by
  have HO : Hid (w.ownsRow base 55 1 (.slice (some ⟨b, 0, none⟩) n n) n (ls.flatMap cpC)) := hown
  have HN : Hid (ls.length = n ∧ m + 26 = n) := ⟨hn, hm⟩
  have hne : ((k : Int) == (k : Int) + 26) = false := by simp; omega
  have hkn : (k : Int) + 26 < (n : Int) := by omega
  have hkn' : ¬ n = k + 26 := by omega
  have hkn2 : ¬ n ≤ k + 26 := by omega
  have hmn : (m : Int) ≤ (n : Int) := by omega
  clear hown hn
  go_enter Try.func34, Try.ntmps34
  go_wp2
  have ne2 : Nonempty (At fun _ => True) := ⟨⟨w, trivial⟩⟩
  refine region_mixA [true, true, true, true, true, true, false, false] 7 1 (fun _ => True) (by kernel_rfl) rfl (by kernel_rfl) (fun _ _ _ _ _ h => h) trivial ?_
  simp only [selT, selF]
  repeat (go_big_quiet_step (fail))
  refine wpQuiet_nil ?_
  clear ne2
  refine tail_step ?_
  obtain ⟨i0, hi, hz0, hz1, hz2⟩ := info_parts infoCp
  have hsum : k + (n - (k + 26)) = m := by omega
  have HOW : Hid (w.drew.ownsRow base 55 1 (.slice (some ⟨b, 0, none⟩) n n) n (ls.flatMap cpC)) := World.ownsRow.drew HO.out
  have e1 : ls.flatMap cpC = (ls.take (k + 26)).flatMap cpC ++ (ls.drop (k + 26)).flatMap cpC := by rw [← List.flatMap_append, List.take_append_drop]
  have hl1 : ((ls.take (k + 26)).flatMap cpC).length = k + 26 := by rw [cp_len]; simp; have := HN.out.1; omega
  have HCC : Hid (∀ j u, ((ls.drop (k + 26)).flatMap cpC)[j]? = some u → w.drew.cell? ((⟨b, k + 26, none⟩ : Addr).add j) = some u) := fun j u hj => by
    have hjl : j < n - (k + 26) := by have := (List.getElem?_eq_some_iff.1 hj).1; rw [cp_len] at this; simpa [HN.out.1] using this
    rw [Addr.add_lit, World.ownsRow.cellAt HOW.out _ (by omega), e1, List.getElem?_append_right (by omega), hl1, Nat.add_sub_cancel_left]
    exact hj
  have HLL : Hid (((ls.drop (k + 26)).flatMap cpC).length = (n - (k + 26)) * 1) := by show _ = _; rw [cp_len]; simp [HN.out.1]
  have HPR : Hid (w.drew.ownsRow base 55 1 (.slice (some ⟨b, 0, none⟩) k n) k ((ls.take k).flatMap cpC)) := cp_pre HOW.out HN.out.1 (by omega)
  clear e1 hl1
  go_wp2_with (at_builtin; refine wpList_append_fits w.drew rfl _ _ 54 rfl base 55 i0 1 Try.underlying54 hi hz1 b k n ((ls.take k).flatMap cpC) rfl HPR.out ⟨b, k + 26, none⟩ (n - (k + 26)) (n - (k + 26)) ((ls.drop (k + 26)).flatMap cpC) rfl HLL.out HCC.out cpC_one (by omega) ?_)
  intro w1 ho1 hg1
  try rw [hsum] at ho1
  try rw [hsum]
  rw [← List.flatMap_append] at ho1
  have HO1 : Hid (w1.ownsRow base 55 1 (.slice (some ⟨b, 0, none⟩) m n) m ((ls.take k ++ ls.drop (k + 26)).flatMap cpC) ∧ w.grownBy w1 (some b)) := ⟨ho1, ⟨hg1.os, hg1.tape, hg1.output, hg1.size, hg1.block⟩⟩
  clear ho1 hg1 HO HOW HCC HLL HPR
  go_wp2
  refine tail_end ?_
  obtain ⟨w2, hrun, ho2, hg2⟩ := clearCp (w := w1) 0 base b m n 26 (ls.take k ++ ls.drop (k + 26)) HO1.out.1 (by omega)
  have HRUN : Hid ((Builtin.clear_ #[54] 0 #[.slice (some ⟨b, m, none⟩) 26 26]).run Try.prog w1 = .ok (.tuple #[]) w2) := hrun
  have HO2 : Hid (w2.ownsRow base 55 1 (.slice (some ⟨b, 0, none⟩) m n) m ((ls.take k ++ ls.drop (k + 26)).flatMap cpC) ∧ w.grownBy w2 (some b)) := ⟨ho2, grown_trans HO1.out.2 hg2⟩
  have hnm : n - m = 26 := by omega
  clear hrun ho2 hg2 HO1
  try clear hsum
  go_wp2
  rw [HRUN.out]
  go_wp2
  go_ret
  exact ⟨rfl, HO2.out.1, HO2.out.2⟩
/-- a bit: whether a part is at least 0 -/
def bitF (A : Option Nat) : Int := if (ford .f64 A (some 0) == some .gt || ford .f64 A (some 0) == some .eq) = true then 1 else 0
theorem bit_ge (x : Nat) : (FloatKind.f64.format.order x 0 == some .gt || FloatKind.f64.format.order x 0 == some .eq) = (ford .f64 (fc .f64 x) (some 0) == some .gt || ford .f64 (fc .f64 x) (some 0) == some .eq) := by
  rw [order_fc .f64 x 0, fc0]
theorem bitI_c (x : Nat) (w : World) : Calls Try.prog 37 #[.float .f64 x] w fun e w' => e = .returned (.int .i64 (bitF (fc .f64 x))) ∧ w' = w := by
  have hb := bit_ge x
  have HF : Hid (bitF (fc .f64 x) = if (ford .f64 (fc .f64 x) (some 0) == some .gt || ford .f64 (fc .f64 x) (some 0) == some .eq) = true then 1 else 0) := rfl
  obtain ⟨q, hq⟩ : ∃ q, (ford .f64 (fc .f64 x) (some 0) == some .gt || ford .f64 (fc .f64 x) (some 0) == some .eq) = q := ⟨_, rfl⟩
  rw [hq] at hb HF
  clear hq
  cases q
  · go_enter Try.func37, Try.ntmps37
    go_wp2
    go_ret
    exact ⟨by rw [HF.out]; rfl, rfl⟩
  · go_enter Try.func37, Try.ntmps37
    go_wp2
    go_ret
    exact ⟨by rw [HF.out]; rfl, rfl⟩
theorem bitF_bd (A : Option Nat) : 0 ≤ bitF A ∧ bitF A ≤ 1 := by unfold bitF; split <;> omega
theorem fin_fc {a a' : Nat} (h : fc .f64 a = fc .f64 a') : finB a = finB a' ∧ (finB a = true → a = a') := by
  rcases fc_cases .f64 a with ⟨h1, h2⟩ | ⟨h1, h2⟩
  · have h1' : fnan .f64 a' = true := by rw [← fnan_of h]; exact h1
    have e1 : finB a = false := by unfold finB; unfold fnan at h1; cases hd : FloatKind.f64.decode a <;> simp_all [Ieee.Datum.isNaN]
    have e2 : finB a' = false := by unfold finB; unfold fnan at h1'; cases hd : FloatKind.f64.decode a' <;> simp_all [Ieee.Datum.isNaN]
    exact ⟨by rw [e1, e2], fun e => by rw [e1] at e; cases e⟩
  · obtain rfl := eq_of_fc h h1
    exact ⟨rfl, fun _ => rfl⟩
/-- quotients hang on what floats are alone -/
theorem q_fc {a b c d a' b' c' d' : Nat} (ha : fc .f64 a = fc .f64 a') (hb : fc .f64 b = fc .f64 b') (hc : fc .f64 c = fc .f64 c') (hd : fc .f64 d = fc .f64 d') : qOk a b c d = qOk a' b' c' d' ∧ qR a b c d = qR a' b' c' d' ∧ qI a b c d = qI a' b' c' d' := by
  obtain ⟨a1, a2⟩ := fin_fc ha
  obtain ⟨b1, b2⟩ := fin_fc hb
  obtain ⟨c1, c2⟩ := fin_fc hc
  obtain ⟨d1, d2⟩ := fin_fc hd
  by_cases ho : (finB a && finB b && (finB c && finB d)) = true
  · simp only [Bool.and_eq_true] at ho
    obtain ⟨⟨o1, o2⟩, o3, o4⟩ := ho
    rw [a2 o1, b2 o2, c2 o3, d2 o4]
    exact ⟨rfl, rfl, rfl⟩
  · have e1 : qOk a b c d = false := by unfold qOk; rw [Bool.eq_false_iff.2 ho]; rfl
    have e2 : qOk a' b' c' d' = false := by unfold qOk; rw [← a1, ← b1, ← c1, ← d1, Bool.eq_false_iff.2 ho]; rfl
    exact ⟨by rw [e1, e2], by unfold qR; rw [e1, e2]; simp, by unfold qI; rw [e1, e2]; simp⟩

end Go.Proofs.Ytomgdlnpajfjhaa
