/- Rows of -1; no condition. -/
import Derived.Test.YtmfmlbiplagmiaaDoorWrt
import Derived.Laws.Bits64b
import Derived.Laws.CopyOwn
namespace Go.Proofs.YtmfmlbiplagmiaaDoor
open Go.RowKit Go.ChangeShapes Go.WideShapes Go.ChangeAt
set_option linter.unusedVariables false
set_option linter.unusedSimpArgs false
set_option maxRecDepth 8000

theorem and1 : bits .and .u64 1 4294967295 = 1 := by kernel_rfl
theorem andn (n : Nat) (h : n ≤ 30) : bits .and .u64 (n : Int) 4294967295 = (n : Int) := by
  have h2 := bits_and_u64_nat n 4294967295 (by omega) (by omega)
  have e : n &&& 4294967295 = n % 4294967296 := Nat.and_two_pow_sub_one_eq_mod n 32
  rw [e, Nat.mod_eq_of_lt (by omega)] at h2
  exact h2
set_option maxHeartbeats 1600000 in
theorem mul64_c (n : Nat) (h : n ≤ 30) (w : World) : Calls Tryd.prog 95 #[.int .u64 1, .int .u64 (n : Int)] w fun e w' => e = .returned (.tuple #[.int .u64 0, .int .u64 (n : Int)]) ∧ w' = w := by
  have e1 := and1
  have e2 := andn n h
  have e0 : bits .and .u64 0 4294967295 = 0 := by kernel_rfl
  have d1 : (n : Int) / 4294967296 = 0 := by omega
  have wz : IntKind.u64.wrap 0 = 0 := by kernel_rfl
  have wn : IntKind.u64.wrap (n : Int) = (n : Int) := by rw [IntKind.wrap_u64]; omega
  go_enter Tryd.func95, Tryd.ntmps95
  go_wp2
  try simp only [e1, e2, e0, d1, wz, wn, Int.one_mul, Int.mul_one, Int.zero_mul, Int.mul_zero, Int.add_zero, Int.zero_add, show (1 : Int) / 4294967296 = 0 by decide, show (0 : Int) / 4294967296 = 0 by decide]
  go_ret2
  exact ⟨rfl, rfl⟩
set_option maxHeartbeats 1600000 in
theorem mul_c (n : Nat) (h : n ≤ 30) (w : World) : Calls Tryd.prog 90 #[.int .u64 1, .int .u64 (n : Int)] w fun e w' => e = .returned (.tuple #[.int .u64 0, .int .u64 (n : Int)]) ∧ w' = w := by
  have H : Hid (n ≤ 30) := h
  clear h
  go_enter Tryd.func90, Tryd.ntmps90
  go_wp2_with (fail)
  refine (mul64_c n H.out _).mono ?_
  rintro e w1 ⟨rfl, hw⟩
  rw [hw]
  clear hw w1
  go_wp2
  go_ret2
  exact ⟨rfl, rfl⟩
/-- -1 as often as k, 0 behind *-/
def rpl (k n : Nat) : List Value := List.replicate k (.int .i64 (-1)) ++ List.replicate (n - k) (.int .i64 0)
theorem rpl_len {k n : Nat} (h : k ≤ n) : (rpl k n).length = n := by simp [rpl]; omega
theorem rpl_at {k n j : Nat} (h : j < k) : (rpl k n)[j]? = some (.int .i64 (-1)) := by
  unfold rpl
  rw [List.getElem?_append_left (by simpa using h), List.getElem?_replicate, if_pos h]
theorem rpl_splice {k n m : Nat} (h : k + m ≤ n) : splice (rpl k n) k (List.replicate m (.int .i64 (-1))) = rpl (k + m) n := by
  unfold splice rpl
  rw [List.take_append_of_le_length (by simp), List.take_of_length_le (by simp), List.drop_append, List.drop_eq_nil_of_le (by simp), List.length_replicate, List.nil_append, List.length_replicate, List.drop_replicate, ← List.append_assoc, List.replicate_append_replicate]
  congr 2
  omega
theorem rpl_zero (n : Nat) : rpl 0 n = List.replicate n (.int .i64 0) := by simp [rpl]
theorem rpl_full (n : Nat) : rpl n n = (List.replicate n (-1)).map (Value.int .i64) := by simp [rpl]
theorem rp_one (m : Nat) : ∀ v ∈ List.replicate m (Value.int .i64 (-1)), v.oneCell' = true := fun v hv => by rw [List.eq_of_mem_replicate hv]; rfl
theorem size3 : (Tryd.prog.info? 3).map (·.size) = some 1 := by kernel_rfl
/-- a row of -1 -/
def RpR (n : Nat) (w : World) (e : Ending) (w' : World) : Prop := ∃ v, e = .returned v ∧ Ow .i64 3 w.heap.size w' v (List.replicate n (-1)) ∧ Below w.heap.size w w'
theorem rp_meas {k m n : Nat} (h : k < n) (h2 : 1 ≤ m) : n - ((k : Int) + (m : Int)).toNat < n - (k : Int).toNat := by omega
theorem rp_own {w : World} {base g n : Nat} (h : w.heap[g]? = some (.cells (rpl n n).toArray 3 (0, 0))) (hb : base ≤ g) (hn : n ≤ 30) : Ow .i64 3 base w (.slice (some ⟨g, 0, none⟩) n n) (List.replicate n (-1)) := by
  refine ⟨by simp, .inr ⟨g, n, _, by simp, hb, h, by simp, by unfold maxLen; omega, ?_, ?_⟩⟩
  · simp [rpl_len]
  · rw [← rpl_full]; simp [rpl]

set_option maxHeartbeats 3200000 in
theorem repeat_c (gx n : Nat) (w : World) (hx : w.cell? ⟨gx, 0, none⟩ = some (.int .i64 (-1))) (hn : n ≤ 30) : Calls Tryd.prog 80 #[.slice (some ⟨gx, 0, none⟩) 1 1, .int .i64 (n : Int)] w (RpR n w) := by
  obtain ⟨i0, hi, hz0, hz1, hz2⟩ := info_parts toIInfo
  have HX : Hid (w.cell? ⟨gx, 0, none⟩ = some (.int .i64 (-1))) := hx
  have HN : Hid (n ≤ 30) := hn
  have h0 : ((n : Int) < 0) = False := eq_false (by omega)
  have hu : IntKind.u64.wrap (n : Int) = (n : Int) := by rw [IntKind.wrap_u64]; omega
  have hi64 : IntKind.i64.wrap (n : Int) = (n : Int) := wrap_i64 (by omega)
  have hg : ((9223372036854775807 : Int) < (n : Int)) = False := eq_false (by omega)
  clear hx hn
  go_enter Tryd.func80, Tryd.ntmps80
  go_wp2_with (fail)
  refine (mul_c n HN.out _).mono ?_
  rintro e w1 ⟨rfl, hw⟩
  rw [hw]
  clear hw w1
  go_wp2_with (refine wpList_make_full _ rfl _ _ _ rfl w.heap.size _ i0 _ 1 Tryd.underlying25 hi hz0 hz1 _ _ _ _ n rfl rfl rfl rfl (by rw [hz2]; have := HN.out; omega) (by have := HN.out; unfold maxLen; omega) (Nat.le_refl _) ?_)
  intro w2 ho hgr
  obtain ⟨G, hG⟩ : ∃ G, w.heap.size = G := ⟨_, rfl⟩
  have HG : Hid (w.heap.size = G) := hG
  have HC2 : Hid (w2.heap[G]? = some (.cells (rpl 0 n).toArray 3 (0, 0))) := by
    show _ = _
    rcases ho.2 with ⟨e, -⟩ | ⟨k, cap, cur, e, -, hk, -, -, hsz, htk⟩
    · cases e
    · cases e
      rw [hG] at hk
      rw [hk]
      have e1 : cur.toList = List.replicate n (Value.int .i64 0) := by
        have h9 := htk
        rw [List.take_of_length_le (by simp [hsz])] at h9
        exact h9.trans ((toList_madeCells_one _ _).trans (by simp))
      have e2 : (rpl 0 n).toArray = cur := by rw [rpl_zero, ← e1]
      rw [e2]
  have HB2 : Hid (Below w.heap.size w w2) := grown_below hgr (Nat.le_refl _) (fun k e => by cases e)
  rw [hG]
  clear ho hgr hG
  obtain ⟨q, hq⟩ : ∃ q, Nat.min 1 n = q := ⟨_, rfl⟩
  have HQ : Hid (Nat.min 1 n = q ∧ q ≤ n ∧ (1 ≤ q ∨ n = 0)) := ⟨hq, by have : min 1 n = q := hq; omega, by have : min 1 n = q := hq; omega⟩
  clear hq
  go_wp2_with (refine wpList_copy_splice rfl _ _ _ _ rfl 3 Tryd.underlying25 size3 _ _ _ _ _ _ rfl rfl G 0 (rpl 0 n) 3 HC2.out (List.replicate q (.int .i64 (-1))) (by rw [List.length_replicate]; exact HQ.out.1.symm) (fun _ => ⟨rfl, _, rfl, fun j v hv => by
    have hj : j < q := by have := (List.getElem?_eq_some_iff.1 hv).1; simpa using this
    rw [List.getElem?_replicate, if_pos hj] at hv
    have hj0 : j = 0 := by have h1 := HQ.out.1; have : min 1 n = q := h1; omega
    subst hj0
    cases hv
    rw [Addr.add_lit, Nat.zero_add]
    exact (HB2.out.cell (block_lt_of_cell HX.out)).trans HX.out⟩) (by rw [rpl_len (Nat.zero_le _), List.length_replicate]; have := HQ.out; omega) (rp_one q) w.heap.size w HB2.out (by rw [HG.out]; exact Nat.le_refl _) ?_)
  intro w3 hz3 hb3
  have HC3 : Hid (w3.heap[G]? = some (.cells (rpl q n).toArray 3 (0, 0))) := by
    show _ = _
    have := hz3.out
    rw [rpl_splice (by have := HQ.out; omega), Nat.zero_add] at this
    exact this
  have HB3 : Hid (Below w.heap.size w w3) := hb3
  try rw [List.length_replicate]
  clear hz3 hb3 HC2 HB2 HX
  go_wp2
  go_loopw [8] (fun i wr => ∃ k : Nat, i = .int .i64 (k : Int) ∧ k ≤ n ∧ (1 ≤ k ∨ n = 0) ∧ Hid (wr.heap[G]? = some (.cells (rpl k n).toArray 3 (0, 0))) ∧ Hid (Below w.heap.size w wr)) (fun i _ => n - (intOf i).toNat)
  case atStart => exact ⟨q, rfl, HQ.out.2.1, HQ.out.2.2, HC3.out, HB3.out⟩
  case round =>
    obtain ⟨k, rfl, hk, hk1, hC, hB⟩ := hrel
    clear HC3 HB3
    by_cases hlt : k < n
    case neg =>
      obtain rfl : n = k := by omega
      have hnl : ¬ ((n : Int) < (n : Int)) := by omega
      clear hlt hk
      go_wp2
      go_ret
      exact ⟨_, rfl, rp_own hC.out (by rw [HG.out]; exact Nat.le_refl _) HN.out, hB.out⟩
    case pos =>
    have hk1 : 1 ≤ k := by omega
    have hkI : (k : Int) < (n : Int) := by omega
    obtain ⟨m, hm⟩ : ∃ m, Nat.min k (n - k) = m := ⟨_, rfl⟩
    have HM : Hid (Nat.min k (n - k) = m ∧ k + m ≤ n ∧ 1 ≤ m ∧ m ≤ k) := ⟨hm, by have : min k (n - k) = m := hm; omega, by have : min k (n - k) = m := hm; omega, by have : min k (n - k) = m := hm; omega⟩
    have hwm : wrap64 ((k : Int) + (m : Int)) = (k : Int) + (m : Int) := wrap64_in (by have := HM.out; have := HN.out; omega)
    have hk0 : (0 : Int) ≤ (k : Int) := by omega
    have hkn : ¬ n = k := by omega
    have hkn2 : ¬ n ≤ k := by omega
    have hkl : k ≤ n := by omega
    have hklI : (k : Int) ≤ (n : Int) := by omega
    have HCD : Hid (wr.drew.heap[G]? = some (.cells (rpl k n).toArray 3 (0, 0))) := hC.out
    have HBD : Hid (Below w.heap.size w wr.drew) := hB.out.drew
    have ne2 : Nonempty (At fun _ => True) := ⟨⟨w, trivial⟩⟩
    have hlt2 : k < n := hlt
    clear hm hC hB hlt
    go_wp2
    refine region_mixT [true, true, true, true, true, true, true, false, false, false] 8 1 (fun _ => True) (by kernel_rfl) rfl (by kernel_rfl) (fun _ _ _ _ _ h => h) trivial ?_
    simp only [selT, selF]
    try simp only [Act.put]
    repeat (go_big_quiet_step (fail))
    refine wpQuiet_nil ?_
    clear ne2
    refine tail_step ?_
    show wpList _ _ _ _ _ _
    refine wpList_copy_splice rfl _ _ _ _ rfl 3 Tryd.underlying25 size3 (some ⟨G, k, none⟩) (some ⟨G, 0, none⟩) (n - k) (n - k) k n rfl rfl G k (rpl k n) 3 HCD.out (List.replicate m (.int .i64 (-1))) (by rw [List.length_replicate]; exact HM.out.1.symm) (fun _ => ⟨rfl, _, rfl, fun j v hv => by
      have hj : j < m := by have := (List.getElem?_eq_some_iff.1 hv).1; simpa using this
      rw [List.getElem?_replicate, if_pos hj] at hv
      rw [Addr.add_lit, Nat.zero_add, cell_of_row _ G j _ 3 (0, 0) HCD.out, List.getElem?_toArray, rpl_at (by have := HM.out; omega)]
      exact hv⟩) (by rw [rpl_len hkl, List.length_replicate]; exact HM.out.2.1) (rp_one m) w.heap.size w HBD.out (by rw [HG.out]; exact Nat.le_refl _) ?_
    intro w4 hz4 hb4
    have HC4 : Hid (w4.heap[G]? = some (.cells (rpl (k + m) n).toArray 3 (0, 0))) := by have := hz4.out; rw [rpl_splice HM.out.2.1] at this; exact this
    have HB4 : Hid (Below w.heap.size w w4) := hb4
    try rw [List.length_replicate]
    clear hz4 hb4 HCD HBD
    refine ⟨trivial, tail_end ?_⟩
    go_wp2
    go_roundw
    case rel => exact ⟨k + m, by go_num, HM.out.2.1, .inl (by omega), HC4.out, HB4.out⟩
    case measure => first | (rw [hwm]; exact rp_meas hlt2 HM.out.2.2.1) | (simp [intOf, goInt]; exact rp_meas hlt2 HM.out.2.2.1)

end Go.Proofs.YtmfmlbiplagmiaaDoor
