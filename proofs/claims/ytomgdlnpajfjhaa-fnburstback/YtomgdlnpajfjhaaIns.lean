/- A row of nothing behind a row; no condition. -/
import Derived.Test.YtomgdlnpajfjhaaSng
import Derived.Laws.AppendOwn
import Derived.Test.YtomgdlnpajfjhaaMixT
namespace Go.Proofs.Ytomgdlnpajfjhaa
open Go.RowKit Go.ChangeShapes Go.WideShapes Go.ChangeAt
set_option linter.unusedVariables false
set_option linter.unusedSimpArgs false
set_option maxRecDepth 8000

theorem zeroCp_n (m : Nat) : Builtin.zeroCells (Value.cells (.complex .f32 0 0)) m = ((List.replicate m ((0, 0) : Nat × Nat)).flatMap cpC).toArray := by
  apply Array.ext'
  have := fm_rep cpC_len (by decide) ((0, 0) : Nat × Nat) #[.complex .f32 0 0] rfl m
  unfold madeCells at this
  unfold Builtin.zeroCells
  simpa [Value.cells] using this
theorem run_makeC (w : World) (ty : TypeId) (g n cap m : Nat) (olds : List Value) (hlo : olds.length = n) (holds : ∀ j v, olds[j]? = some v → w.cell? ((⟨g, 0, none⟩ : Addr).add j) = some v) (hm : 0 < m) (hm2 : m ≤ 1000) (hn : n ≤ 1000) (hg : cap < n + m) :
    (Builtin.append_ #[54, 3] ty #[.slice (some ⟨g, 0, none⟩) n cap, .int .i64 m]).run Try.prog w = .ok (.slice (some ⟨w.heap.size, 0, none⟩) (n + m) (grownCap w (n + m) cap 55)) (w.drew.alloc (.cells (olds.toArray ++ ((List.replicate m ((0, 0) : Nat × Nat)).flatMap cpC).toArray ++ Builtin.zeroCells (Value.cells (.complex .f32 0 0)) (grownCap w (n + m) cap 55 - (n + m))) 55)) := by
  obtain ⟨i0, hi, hz0, hz1, hz2⟩ := info_parts infoCp
  have hw : IntKind.i64.wrap (m : Int) = m := by rw [IntKind.wrap_i64]; omega
  have h48 : ¬ (281474976710656 < (m : Int) * 8) := by omega
  have hneg : ¬ ((m : Int) < 0) := by omega
  have hm0 : m ≠ 0 := by omega
  have hnn : ¬ (n + m ≤ cap) := by omega
  have h63' : ¬ (9223372036854775807 < ((n : Int) + (m : Int))) := by omega
  have hfit := growslice_fits (need := n + m) (old := cap) (bytes := 8) (by omega) (by omega)
  have h48' : ¬ (281474976710656 < Builtin.nextslicecap (n + m) cap * 8) := by omega
  have hfo := run_firstCells_some (P := Try.prog) w.drew 1 n ⟨g, 0, none⟩ n cap olds (by omega) (by simpa using holds)
  have hzc := zeroCp_n m
  simp [Builtin.append_, run_underlying Try.underlying54, run_underlying Try.underlying3, sizeOf, typeInfo, zeroValue, hi, hz0, hz1, hz2, asInt, asIntOf, hw, h48, hneg, hm0, hnn, h63', h48', Question.forced, hfo, newRow, grownCap, hzc]
  congr 2
  apply Array.ext'
  simp [List.append_assoc]
theorem appMk {ops : Array Oper} {rest : List Oper} {o : Oper} {a : Act} {w : World} {Q : Exit → Act → World → Prop} (hgd : o.guard = none) (s x : Operand)
    (ho : o.op = .call { callee := .builtin .append, args := #[s, x], argTypes := #[54, 3] }) (g n cap m : Nat) (hs : a.eval s = .slice (some ⟨g, 0, none⟩) n cap) (hx : a.eval x = .int .i64 (m : Int)) (olds : List Value) (hlo : olds.length = n) (holds : ∀ j v, olds[j]? = some v → w.cell? ((⟨g, 0, none⟩ : Addr).add j) = some v) (hm : 0 < m) (hm2 : m ≤ 1000) (hn : n ≤ 1000) (hg : cap < n + m)
    (h : ∀ G C w', G = w.heap.size → n + m ≤ C → C ≤ maxLen → Hid (∃ zs, w'.heap[G]? = some (.cells (olds ++ (((List.replicate m ((0, 0) : Nat × Nat)).flatMap cpC) ++ zs)).toArray 55 (0, 0)) ∧ zs.length = C - (n + m)) → Below w.heap.size w w' → wpList Try.prog ops Q rest (a.put o.dst (.slice (some ⟨G, 0, none⟩) (n + m) C)) w') : wpList Try.prog ops Q (o :: rest) a w := by
  have hr := run_makeC w o.type g n cap m olds hlo holds hm hm2 hn hg
  have hge := grownCap_ge w (n + m) cap 55
  have hcm' : grownCap w (n + m) cap 55 ≤ maxLen := grownCap_le_maxLen w (n + m) cap 55 (by unfold maxLen; omega)
  refine wpList_plain hgd fun K hK => ?_
  unfold Oper.wp execOp
  simp only [ho, resolve, invoke, builtin, Sem.run_bind, Sem.run_pure, Result.andThen_ok, List.map_toArray, List.map_cons, List.map_nil, hs, hx, hr]
  refine hK _ _ (h _ _ _ rfl hge hcm' ⟨(Builtin.zeroCells (Value.cells (.complex .f32 0 0)) (grownCap w (n + m) cap 55 - (n + m))).toList, ?_, ?_⟩ (((Below.refl _ _).drew).alloc (by simp) _))
  · have e : (olds ++ (((List.replicate m ((0, 0) : Nat × Nat)).flatMap cpC) ++ (Builtin.zeroCells (Value.cells (.complex .f32 0 0)) (grownCap w (n + m) cap 55 - (n + m))).toList)).toArray = olds.toArray ++ ((List.replicate m ((0, 0) : Nat × Nat)).flatMap cpC).toArray ++ Builtin.zeroCells (Value.cells (.complex .f32 0 0)) (grownCap w (n + m) cap 55 - (n + m)) := by
      apply Array.ext'; simp [List.append_assoc]
    rw [e]
    exact heap_alloc_new w.drew _
  · rw [zeroCp_n, List.toList_toArray, cp_len, List.length_replicate]

end Go.Proofs.Ytomgdlnpajfjhaa
namespace Go.Proofs.Ytomgdlnpajfjhaa
open Go.RowKit Go.ChangeShapes Go.WideShapes Go.ChangeAt
set_option linter.unusedVariables false
set_option linter.unusedSimpArgs false
set_option maxRecDepth 8000

theorem szCp : (Try.prog.info? 55).map (·.size) = some 1 := by kernel_rfl
/-- what stands in a row behind two copies -/
theorem splice2 {α : Type} (A Z T D zs : List α) (i m : Nat) (hA : A.length = i) (hT : T.length = m) (hZ : Z.length = m + D.length) : splice (splice (A ++ (Z ++ zs)) i T) (i + m) D = A ++ (T ++ (D ++ zs)) := by
  subst hA hT
  unfold splice
  have e1 : (A ++ (Z ++ zs)).take A.length = A := by simp
  have e2 : (A ++ (Z ++ zs)).drop (A.length + T.length) = Z.drop T.length ++ zs := by
    rw [← List.drop_drop, List.drop_left, List.drop_append_of_le_length (by omega)]
  rw [e1, e2]
  have e3 : (A ++ (T ++ (Z.drop T.length ++ zs))).take (A.length + T.length) = A ++ T := by
    rw [← List.append_assoc, ← List.length_append, List.take_left]
  have e4 : (A ++ (T ++ (Z.drop T.length ++ zs))).drop (A.length + T.length + D.length) = zs := by
    rw [← List.append_assoc, ← List.length_append, ← List.drop_drop, List.drop_left, List.drop_append_of_le_length (by simp; omega), List.drop_eq_nil_of_le (by simp; omega), List.nil_append]
  rw [e3, e4]
  simp [List.append_assoc]
set_option maxHeartbeats 12800000 in
theorem insert_c (b g n i cT : Nat) (ls T : List (Nat × Nat)) (w : World) (hs : ∀ j v, (ls.flatMap cpC)[j]? = some v → w.cell? ⟨b, j, none⟩ = some v) (hg : ∀ j v, (T.flatMap cpC)[j]? = some v → w.cell? ⟨g, j, none⟩ = some v) (hn : ls.length = n) (hT : T.length = 26) (hi : i < n) (hnn : n ≤ 160) :
   Calls Try.prog 28 #[.slice (some ⟨b, 0, none⟩) n n, .int .i64 i, .slice (some ⟨g, 0, none⟩) 26 cT] w fun e w' => ∃ v', e = .returned v' ∧ Rg 1 cpC w' v' (ls.take i ++ (T ++ ls.drop i)) ∧ Below w.heap.size w w' := by
  have HS : Hid (∀ j v, (ls.flatMap cpC)[j]? = some v → w.cell? ⟨b, j, none⟩ = some v) := hs
  have HG : Hid (∀ j v, (T.flatMap cpC)[j]? = some v → w.cell? ⟨g, j, none⟩ = some v) := hg
  have HN : Hid (ls.length = n ∧ T.length = 26) := ⟨hn, hT⟩
  have hin : ((i : Int) == (n : Int)) = false := by simp; omega
  have hii : (i : Int) < (n : Int) := by omega
  have hi0 : (0 : Int) ≤ (i : Int) := by omega
  have hgt : (n : Int) < (n : Int) + 26 := by omega
  have hni : ¬ n = i := by omega
  have hni2 : ¬ n ≤ i := by omega
  clear hs hg hn hT
  obtain ⟨m, hm⟩ : ∃ m : Nat, n + 26 - i = m := ⟨_, rfl⟩
  have hmi : (n : Int) + 26 - (i : Int) = (m : Int) := by omega
  have him : i + m = n + 26 := by omega
  have HHM : Hid (n + 26 - i = m ∧ i + m = n + 26) := ⟨hm, him⟩
  have HTK : Hid (((ls.take i).flatMap cpC).length = i) := by show _ = _; rw [cp_len]; simp; have := HN.out.1; omega
  have HTC : Hid (∀ j v, ((ls.take i).flatMap cpC)[j]? = some v → w.cell? ((⟨b, 0, none⟩ : Addr).add j) = some v) := fun j v hv => by
    rw [Addr.add_lit, Nat.zero_add]
    refine HS.out j v ?_
    have e1 : ls.flatMap cpC = (ls.take i).flatMap cpC ++ (ls.drop i).flatMap cpC := by rw [← List.flatMap_append, List.take_append_drop]
    rw [e1, List.getElem?_append_left (List.getElem?_eq_some_iff.1 hv).1]; exact hv
  clear hm him
  go_enter Try.func28, Try.ntmps28
  go_wp2_with (at_builtin; refine appMk rfl _ _ rfl b i n m rfl (by show Value.int .i64 _ = _; first | rfl | exact val_int (by omega)) ((ls.take i).flatMap cpC) HTK.out HTC.out (by have := HHM.out; omega) (by have := HHM.out; omega) (by omega) (by have := HHM.out; omega) ?_)
  intro G C w1 hG hC hCm hz hb
  obtain ⟨zs, hz1, hz2⟩ := hz.out
  rw [HHM.out.2] at hC hz2 ⊢
  have HZ1 : Hid (w1.heap[G]? = some (.cells ((ls.take i).flatMap cpC ++ ((List.replicate m ((0, 0) : Nat × Nat)).flatMap cpC ++ zs)).toArray 55 (0, 0))) := hz1
  have HB1 : Hid (Below w.heap.size w w1) := hb
  have HZL : Hid (zs.length = C - (n + 26) ∧ n + 26 ≤ C ∧ C ≤ maxLen ∧ G = w.heap.size) := ⟨hz2, hC, hCm, hG⟩
  have HCT : Hid ((T.flatMap cpC).length = 26) := by show _ = _; rw [cp_len, HN.out.2]
  have HCD : Hid (((ls.drop i).flatMap cpC).length = n - i) := by show _ = _; rw [cp_len]; simp [HN.out.1]
  have HGS : Hid (∀ W, Below w.heap.size w W → (∀ j v, (T.flatMap cpC)[j]? = some v → W.cell? ((⟨g, 0, none⟩ : Addr).add j) = some v)) := fun W hW j v hv => by
    rw [Addr.add_lit, Nat.zero_add, hW.cell (block_lt_of_cell (HG.out j v hv))]; exact HG.out j v hv
  have HDS : Hid (∀ W, Below w.heap.size w W → (∀ j v, ((ls.drop i).flatMap cpC)[j]? = some v → W.cell? ((⟨b, i, none⟩ : Addr).add j) = some v)) := fun W hW j v hv => by
    have e1 : ls.flatMap cpC = (ls.take i).flatMap cpC ++ (ls.drop i).flatMap cpC := by rw [← List.flatMap_append, List.take_append_drop]
    have h2 : (ls.flatMap cpC)[i + j]? = some v := by rw [e1, List.getElem?_append_right (by rw [HTK.out]; omega), HTK.out, Nat.add_sub_cancel_left]; exact hv
    have h3 := HS.out _ _ h2
    rw [Addr.add_lit, hW.cell (block_lt_of_cell h3)]; exact h3
  have hC1 : (n : Int) + 26 ≤ (C : Int) := by omega
  have hCi : ¬ C = i := by omega
  have hCi2 : ¬ C ≤ i := by omega
  have hCj : ¬ C = i + 26 := by omega
  have hCj2 : ¬ C ≤ i + 26 := by omega
  have hmin1 : (26 : Nat) = Nat.min 26 (n + 26 - i) := by show 26 = min 26 (n + 26 - i); omega
  have hmin2 : n - i = Nat.min (n - i) (n + 26 - (i + 26)) := by show n - i = min (n - i) (n + 26 - (i + 26)); omega
  have HM1 : Hid ((26 : Nat) = Nat.min 26 (n + 26 - i)) := hmin1
  have HM2 : Hid (n - i = Nat.min (n - i) (n + 26 - (i + 26))) := hmin2
  have HCU : Hid (((ls.take i).flatMap cpC ++ ((List.replicate m ((0, 0) : Nat × Nat)).flatMap cpC ++ zs)).length = C) := by
    show _ = _
    rw [List.length_append, List.length_append, HTK.out, cp_len, List.length_replicate, HZL.out.1]; have := HHM.out; omega
  clear hz hz1 hz2 hb hC hCm hG hmin1 hmin2 hgt
  have hrun := run_copy_row (P := Try.prog) w1 54 54 3 55 G i (n + 26 - i) (C - i) ⟨g, 0, none⟩ 26 cT _ 55 (T.flatMap cpC) Try.underlying54 szCp HZ1.out (by rw [HCT.out]; exact HM1.out) (HGS.out _ HB1.out) (by rw [HCT.out, List.size_toArray, HCU.out]; omega) cpC_one
  rw [HCT.out] at hrun
  obtain ⟨w2, hz2, hb2, hrun2⟩ : ∃ w2 : World, w2.heap[G]? = some (.cells (splice ((ls.take i).flatMap cpC ++ ((List.replicate m ((0, 0) : Nat × Nat)).flatMap cpC ++ zs)) i (T.flatMap cpC)).toArray 55 (0, 0)) ∧ Below w.heap.size w w2 ∧ (Builtin.copy_ #[54, 54] 3 #[.slice (some ⟨G, i, none⟩) (n + 26 - i) (C - i), .slice (some ⟨g, 0, none⟩) 26 cT]).run Try.prog w1 = .ok (goInt 26) w2 := by
    refine ⟨_, ?_, ?_, hrun⟩
    · refine (setRow_heap w1 G _ _ 55 _ HZ1.out).trans ?_
      congr 2
      unfold splice
      rw [HCT.out]
      simp [List.append_assoc]
    · exact belowRow HB1.out G (by rw [HZL.out.2.2.2]; exact Nat.le_refl _) _
  have HRUN : Hid ((Builtin.copy_ #[54, 54] 3 #[.slice (some ⟨G, i, none⟩) (n + 26 - i) (C - i), .slice (some ⟨g, 0, none⟩) 26 cT]).run Try.prog w1 = .ok (goInt 26) w2) := hrun2
  have HZ2 : Hid (w2.drew.heap[G]? = some (.cells (splice ((ls.take i).flatMap cpC ++ ((List.replicate m ((0, 0) : Nat × Nat)).flatMap cpC ++ zs)) i (T.flatMap cpC)).toArray 55 (0, 0))) := hz2
  have HB2 : Hid (Below w.heap.size w w2.drew) := hb2.drew
  clear hrun hrun2 hz2 hb2
  go_wp2
  rw [HRUN.out]
  go_wp2
  have ne2 : Nonempty (At fun _ => True) := ⟨⟨w, trivial⟩⟩
  refine region_mixT [true, true, true, true, true, true, true, true, false] 8 0 (fun _ => True) (by kernel_rfl) rfl (by kernel_rfl) (fun _ _ _ _ _ h => h) trivial ?_
  simp only [selT, selF]
  try simp only [Act.put]
  repeat (go_big_quiet_step (fail))
  refine wpQuiet_nil ?_
  clear ne2
  show wpList _ _ _ _ _ _
  refine wpList_copy_splice rfl _ _ 54 54 rfl 55 Try.underlying54 szCp (some ⟨G, i + 26, none⟩) (some ⟨b, i, none⟩) (n + 26 - (i + 26)) (C - (i + 26)) (n - i) (n - i) rfl rfl G (i + 26) _ 55 HZ2.out ((ls.drop i).flatMap cpC) (by rw [HCD.out]; exact HM2.out) (fun _ => ⟨rfl, _, rfl, HDS.out _ HB2.out⟩) (by rw [length_splice _ _ _ (by rw [HCT.out, HCU.out]; omega), HCD.out, HCU.out]; omega) cpC_one w.heap.size w HB2.out (by rw [HZL.out.2.2.2]; exact Nat.le_refl _) ?_
  intro w3 hz3 hb3
  have hsp := splice2 ((ls.take i).flatMap cpC) ((List.replicate m ((0, 0) : Nat × Nat)).flatMap cpC) (T.flatMap cpC) ((ls.drop i).flatMap cpC) zs i 26 HTK.out HCT.out (by rw [cp_len, List.length_replicate, HCD.out]; have := HHM.out; omega)
  have hz4 := hz3.out
  rw [hsp] at hz4
  have HR : Hid (Rg 1 cpC w3 (.slice (some ⟨G, 0, none⟩) (n + 26) C) (ls.take i ++ (T ++ ls.drop i))) := by
    have hl : (ls.take i ++ (T ++ ls.drop i)).length = n + 26 := by simp; have := HN.out; omega
    refine ⟨some ⟨G, 0, none⟩, C, by rw [hl], by rw [hl]; exact HZL.out.2.1, HZL.out.2.2.1, .inr ⟨G, 0, rfl, fun k hk => ?_⟩⟩
    intro j v hv
    have hj0 : j = 0 := by have := (List.getElem?_eq_some_iff.1 hv).1; rw [cpC_len] at this; omega
    subst hj0
    rw [Nat.zero_add, Nat.mul_one, Nat.add_zero, cell_of_row w3 G k _ 55 (0, 0) hz4]
    have h5 := fm_at cpC_len (ls.take i ++ (T ++ ls.drop i)) k 0 hk (by decide)
    rw [Nat.mul_one, Nat.add_zero, List.flatMap_append, List.flatMap_append] at h5
    have h6 : k < ((ls.take i).flatMap cpC ++ ((T.flatMap cpC) ++ ((ls.drop i).flatMap cpC))).length := by
      rw [← List.flatMap_append, ← List.flatMap_append, cp_len]; exact hk
    rw [List.getElem?_toArray, show (ls.take i).flatMap cpC ++ (T.flatMap cpC ++ ((ls.drop i).flatMap cpC ++ zs)) = ((ls.take i).flatMap cpC ++ ((T.flatMap cpC) ++ ((ls.drop i).flatMap cpC))) ++ zs by simp [List.append_assoc], List.getElem?_append_left h6, h5]
    exact hv
  have HB3 : Hid (Below w.heap.size w w3) := hb3
  clear hz3 hz4 hb3 hsp HZ2 HB2
  go_wp2
  go_ret
  exact ⟨_, rfl, HR.out, HB3.out⟩

end Go.Proofs.Ytomgdlnpajfjhaa
