/- namesOfBoth, by its contract; no condition. -/
import Derived.Test.YtlknakijdpeaoaaSrt
namespace Go.Proofs.Ytlknakijdpeaoaa
open Go.RowKit Go.ChangeShapes Go.WideShapes Go.ChangeAt
set_option linter.unusedVariables false
set_option linter.unusedSimpArgs false
set_option maxRecDepth 8000
/-- append of one value to a row of one's own: what is written, and where the answer lies -/
theorem appV {T E : TypeId} {z0 : Value} {by' : Nat} (hT : Try.prog.underlying T = some (.slice E)) (hI : (Try.prog.info? E).map (fun i => (i.zero, i.size, i.bytes)) = some (some z0, 1, by')) (hz1' : z0.cells.size = 1) (hby : by' ≤ 24)
    {ops : Array Oper} {rest : List Oper} {o : Oper} {a : Act} {w : World} {Q : Exit → Act → World → Prop} (hgd : o.guard = none) (s x : Operand)
    (ho : o.op = .call { callee := .builtin .append, args := #[s, x], argTypes := #[T, T] }) (base : Nat) (v : Value) (xs : List Value) (hs : a.eval s = v) (hown : w.ownsRow base E 1 v xs.length xs)
    (g : Nat) (z : Value) (hz1c : z.oneCell' = true) (hx : a.eval x = .slice (some ⟨g, 0, none⟩) 1 1) (hc : w.cell? ⟨g, 0, none⟩ = some z) (hl : xs.length ≤ 1000000) (hbase : base ≤ w.heap.size)
    (h : ∀ v' w', w'.ownsRow base E 1 v' (xs ++ [z]).length (xs ++ [z]) → w.grownBy w' v.ownBlock → (v'.ownBlock = v.ownBlock ∨ v'.ownBlock = some w.heap.size) → wpList Try.prog ops Q rest (a.put o.dst v') w') : wpList Try.prog ops Q (o :: rest) a w := by
  obtain ⟨i0, hi, hz0, hz1, hz2⟩ := info_parts hI
  refine wpList_append_own_at (w := w) hgd s x T ho base E i0 z0 1 by' hT hi hz0 hz1 hz2 hz1' (by decide) v xs.length xs hs hown ⟨g, 0, none⟩ 1 1 [z] hx rfl ?_ ?_ ?_ ?_ hbase ?_
  · intro j u hj
    match j, hj with
    | 0, hj => simp at hj; subst hj; simpa [Addr.add] using hc
  · intro u hu; simp at hu; subst hu; exact hz1c
  · unfold maxLen; omega
  · have : (xs.length + 1) * by' ≤ (xs.length + 1) * 24 := Nat.mul_le_mul_left _ hby
    omega
  · intro v' w' h1 h2 h3 h4
    exact h v' w' (by simpa using h1) h2 h4

theorem info9 : (Try.prog.info? 9).map (fun i => (i.zero, i.size, i.bytes)) = some (some (.string ⟨#[]⟩), 1, 16) := by kernel_rfl
set_option maxHeartbeats 6400000 in
theorem names_c (v1 v2 : Value) (xs ys : Ses) (w : World) (h1 : Rs w v1 xs) (h2 : Rs w v2 ys) (hx : xs.length ≤ 40) (hy : ys.length ≤ 40) :
    Calls Try.prog 37 #[v1, v2] w fun e w' => ∃ v, e = .returned v ∧ w'.ownsRow w.heap.size 9 1 v (nmB ((xs ++ ys).map (·.nm))).length ((nmB ((xs ++ ys).map (·.nm))).map Value.string) ∧ Below w.heap.size w w' := by
  obtain ⟨W0, hW0⟩ : ∃ W, w.alloc (Obj.cells #[v1, v2] 30) = W := ⟨_, rfl⟩
  have b0 : Below w.heap.size w W0 := by rw [← hW0]; exact (Below.refl _ _).alloc (Nat.le_refl _) _
  have k0 : Blk W0 w.heap.size #[v1, v2] 30 := by rw [← hW0]; exact Blk.new _ _ _
  have hcon := concat_c w.heap.size v1 v2 xs ys W0 (h1.below b0) (h2.below b0) hx hy (k0.cell 0) (k0.cell 1)
  have HCON : Hid (Calls Try.prog 49 #[.slice (some ⟨w.heap.size, 0, none⟩) 2 2] W0 fun e w' => ∃ v, e = .returned v ∧ Ot 55 W0.heap.size w' v (xs ++ ys) ∧ Below W0.heap.size W0 w') := hcon
  have HB0 : Hid (Below w.heap.size w W0) := b0
  have HW0 : Hid (w.alloc (Obj.cells #[v1, v2] 30) = W0) := hW0
  have hl80 : (xs ++ ys).length ≤ 80 := by rw [List.length_append]; omega
  clear hcon b0 k0 hW0 hx hy
  obtain ⟨a1, p1, rfl, -⟩ := h1
  obtain ⟨a2, p2, rfl, -⟩ := h2
  generalize xs ++ ys = ls at *
  go_enter Try.func37, Try.ntmps37
  go_wp2_with (fail)
  rw [HW0.out]
  refine HCON.out.mono ?_
  rintro e w1 ⟨v, rfl, o1, b1⟩
  have hr := o1.rd
  obtain ⟨av, cv, rfl, hc1, hc2, h3⟩ := hr
  have HB1 : Hid (Below w.heap.size w w1) := HB0.out.trans (b1.mono HB0.out.size)
  have HL : Hid (ls.length ≤ 80) := hl80
  clear o1 b1 HCON HW0 HB0
  go_wp2
  go_loopw [5, 13] (fun s i wr => ∃ (j : Nat) (u : Value), j ≤ ls.length ∧ i = .int .i64 j ∧ u = s ∧ Hid (wr.ownsRow w1.heap.size 9 1 u ((ls.take j).map fun r => Value.string r.nm).length ((ls.take j).map fun r => Value.string r.nm)) ∧ Hid (Below w1.heap.size w1 wr)) (fun _ i _ => ls.length - (intOf i).toNat)
  case atStart => exact ⟨0, _, Nat.zero_le _, rfl, rfl, World.ownsRow_nil _ _ _ _, Below.refl _ _⟩
  case round =>
    obtain ⟨j, u, hj, rfl, rfl, HO, HBR⟩ := hrel
    by_cases hlt : j < ls.length
    case neg =>
      obtain rfl : j = ls.length := by omega
      have ho := HO.out
      rw [List.take_length, List.length_map] at ho
      have e1 : ls.map (fun r => Value.string r.nm) = (ls.map fun r => r.nm.data.toList).map encStr := by rw [List.map_map]; rfl
      have e2 : (ls.map fun r => r.nm.data.toList).length = ls.length := by simp
      rw [e1, ← e2] at ho
      have HO2 : Hid (wr.ownsRow w1.heap.size 9 1 u (ls.map fun r => r.nm.data.toList).length ((ls.map fun r => r.nm.data.toList).map encStr)) := ho
      have HBW : Hid (Below w.heap.size w wr) := HB1.out.trans (HBR.out.mono HB1.out.size)
      have HSZ : Hid (w.heap.size ≤ w1.heap.size) := HB1.out.size
      clear ho e1 e2 h3
      go_wp2_with (fail)
      refine (sort_c _ u _ wr HO2.out (by rw [List.length_map]; exact HL.out)).mono ?_
      rintro e w2 ⟨rfl, o2, g2⟩
      have HG : Hid (Below w1.heap.size wr w2) := grown_below g2 HBR.out.size fun k hk => (World.ownsRow.lt HO2.out k hk).1
      have HO3 : Hid (w2.ownsRow w1.heap.size 9 1 u ((ls.map fun r => r.nm.data.toList).mergeSort fun x y => decide (x ≤ y)).length (((ls.map fun r => r.nm.data.toList).mergeSort fun x y => decide (x ≤ y)).map encStr)) := by
        show World.ownsRow _ _ _ _ _ _ _
        rw [List.length_mergeSort]; exact o2
      clear o2 g2
      go_wp2_with (fail)
      refine (compact_c _ u _ w2 wr HO3.out (by rw [List.length_mergeSort, List.length_map]; exact HL.out) HG.out).mono ?_
      rintro e w3 ⟨v3, rfl, o3, b3⟩
      have HF : Hid (w3.ownsRow w.heap.size 9 1 v3 (nmB (ls.map (·.nm))).length ((nmB (ls.map (·.nm))).map Value.string) ∧ Below w.heap.size w w3) := by
        refine ⟨?_, HBW.out.trans (b3.mono HSZ.out)⟩
        have e1 : (nmB (ls.map (·.nm))).map Value.string = (nmL (ls.map (·.nm))).map encStr := by unfold nmB; rw [List.map_map]; rfl
        have e2 : (nmB (ls.map (·.nm))).length = (nmL (ls.map (·.nm))).length := by unfold nmB; simp
        have e3 : nmL (ls.map (·.nm)) = Lib.compact ((ls.map fun r => r.nm.data.toList).mergeSort fun x y => decide (x ≤ y)) := by unfold nmL; rw [List.map_map]; rfl
        rw [e1, e2, e3]
        refine ⟨o3.1, ?_⟩
        rcases o3.2 with q | ⟨g, cap, cur, hv, hg, r⟩
        · exact .inl q
        · exact .inr ⟨g, cap, cur, hv, Nat.le_trans HSZ.out hg, r⟩
      clear o3 b3
      go_wp2
      go_ret
      exact ⟨_, rfl, HF.out.1, HF.out.2⟩
    case pos =>
    rcases h3 with h3 | ⟨b, off, rfl, h4⟩
    · subst h3; simp at hlt
    have hc := h4 j hlt
    have hcb : b < w1.heap.size := block_lt_of_cell hc.1
    obtain ⟨r, hr⟩ : ∃ r, ls[j] = r := ⟨_, rfl⟩
    rw [hr] at hc
    have e0 := (HBR.out.cell (p := ⟨b, off + j * 2, none⟩) hcb).trans hc.1
    have e1 := (HBR.out.cell (p := ⟨b, off + j * 2 + 1, none⟩) hcb).trans hc.2
    have hjI : (j : Int) < (ls.length : Int) := by omega
    have HTK : Hid ((ls.take (j + 1)).map (fun r => Value.string r.nm) = (ls.take j).map (fun r => Value.string r.nm) ++ [Value.string r.nm]) := by
      show _ = _
      rw [List.take_succ_eq_append_getElem hlt, List.map_append, hr]; rfl
    obtain ⟨wx, hwx⟩ : ∃ W, (wr.alloc (Obj.cells #[.string r.nm, .string r.vl] 55)).alloc (Obj.cells #[.string r.nm] 9) = W := ⟨_, rfl⟩
    have HWX : Hid ((wr.alloc (Obj.cells #[.string r.nm, .string r.vl] 55)).alloc (Obj.cells #[.string r.nm] 9) = wx) := hwx
    have HBX : Hid (Below w1.heap.size w1 wx) := by rw [← hwx]; exact (HBR.out.alloc HBR.out.size _).alloc (by have := HBR.out.size; simp; omega) _
    have HOX : Hid (wx.ownsRow w1.heap.size 9 1 u ((ls.take j).map fun r => Value.string r.nm).length ((ls.take j).map fun r => Value.string r.nm)) := by rw [← hwx]; exact World.ownsRow.alloc (World.ownsRow.alloc HO.out _) _
    have HCX : Hid (wx.cell? ⟨wr.heap.size + 1, 0, none⟩ = some (.string r.nm)) := by
      rw [← hwx]
      exact (Blk.newAt _ _ _ _ (by simp)).cell 0
    have HJL : Hid (j ≤ 80) := by have := HL.out; show j ≤ 80; omega
    clear hc hr hwx h4
    go_wp2_with (at_builtin; rw [HWX.out]; refine appV Try.underlying42 info9 rfl (by decide) rfl _ _ rfl w1.heap.size u _ rfl HOX.out _ (.string r.nm) rfl rfl HCX.out (by have := HJL.out; simp; omega) HBX.out.size ?_)
    intro v' w3 ho hg hb
    have HO3 : Hid (w3.ownsRow w1.heap.size 9 1 v' ((ls.take (j + 1)).map fun r => Value.string r.nm).length ((ls.take (j + 1)).map fun r => Value.string r.nm)) := by
      show World.ownsRow _ _ _ _ _ _ _
      rw [HTK.out]
      have e : ((ls.take j).map (fun r => Value.string r.nm) ++ [Value.string r.nm]).length = j + 1 := by simp; omega
      rw [e, List.map_take]
      exact ho
    have HB3 : Hid (Below w1.heap.size w1 w3) := HBX.out.trans (grown_below hg HBX.out.size fun k hk => (World.ownsRow.lt HOX.out k hk).1)
    clear ho hg hb e0 e1
    go_wp2
    go_roundw
    case rel => exact ⟨j + 1, _, by omega, by go_num, rfl, HO3.out, HB3.out⟩
    case measure => simp [intOf]; omega

end Go.Proofs.Ytlknakijdpeaoaa
