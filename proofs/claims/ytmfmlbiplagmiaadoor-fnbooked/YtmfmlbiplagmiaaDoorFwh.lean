/- Faults of one kind; no condition. -/
import Derived.Test.YtmfmlbiplagmiaaDoorFcl
import Derived.Test.YtmfmlbiplagmiaaDoorCpb
import Derived.Test.YtmfmlbiplagmiaaDoorBoi
namespace Go.Proofs.YtmfmlbiplagmiaaDoor
open Go.RowKit Go.ChangeShapes Go.WideShapes Go.ChangeAt
set_option linter.unusedVariables false
set_option linter.unusedSimpArgs false
set_option maxRecDepth 8000

abbrev erC : Int × Int → List Value := fun x => [nfV x.1 x.2]
theorem erC_len (x : Int × Int) : (erC x).length = 1 := rfl
theorem infoEr : (Tryd.prog.info? 71).map (fun i => (i.zero, i.size, i.bytes)) = some (some .nilIface, 1, 16) := by kernel_rfl
theorem erC_one {ls : List (Int × Int)} : ∀ u ∈ ls.flatMap erC, u.oneCell' = true := by
  intro u hu
  obtain ⟨x, -, hx⟩ := List.mem_flatMap.1 hu
  simp at hx
  subst hx; rfl
/-- a fault appended to a row of one's own: what is written, and where the answer lies -/
theorem appE {ops : Array Oper} {rest : List Oper} {o : Oper} {a : Act} {w : World} {Q : Exit → Act → World → Prop} (hgd : o.guard = none) (s x : Operand)
    (ho : o.op = .call { callee := .builtin .append, args := #[s, x], argTypes := #[68, 68] }) (base : Nat) (v : Value) (ts : List (Int × Int)) (hs : a.eval s = v) (hown : Og 1 erC 71 base w v ts)
    (g : Nat) (t : Int × Int) (hx : a.eval x = .slice (some ⟨g, 0, none⟩) 1 1) (hc : Blk w g #[nfV t.1 t.2] 71) (hl : ts.length ≤ 1000) (hbase : base ≤ w.heap.size)
    (h : ∀ v' w', Og 1 erC 71 base w' v' (ts ++ [t]) → w.grownBy w' v.ownBlock → (v'.ownBlock = v.ownBlock ∨ v'.ownBlock = some w.heap.size) → wpList Tryd.prog ops Q rest (a.put o.dst v') w') : wpList Tryd.prog ops Q (o :: rest) a w := by
  obtain ⟨i0, hi, hz0, hz1, hz2⟩ := info_parts infoEr
  refine wpList_append_own_at (w := w) hgd s x 68 ho base 71 i0 .nilIface 1 16 Tryd.underlying68 hi hz0 hz1 hz2 rfl (by decide) v ts.length (ts.flatMap erC) hs hown ⟨g, 0, none⟩ 1 1 [nfV t.1 t.2] hx rfl ?_ ?_ ?_ ?_ hbase ?_
  · intro j u hj
    have c0 := hc.cell 0
    simp at c0
    match j, hj with
    | 0, hj => simp at hj; subst hj; simpa [Addr.add] using c0
  · intro u hu
    simp at hu
    subst hu; rfl
  · unfold maxLen; omega
  · omega
  · intro v' w' h1 h2 h3 h4
    refine h v' w' ?_ h2 h4
    rw [Og, List.length_append, List.flatMap_append]
    simpa using h1
theorem appEs {ops : Array Oper} {rest : List Oper} {o : Oper} {a : Act} {w : World} {Q : Exit → Act → World → Prop} (hgd : o.guard = none) (s x : Operand)
    (ho : o.op = .call { callee := .builtin .append, args := #[s, x], argTypes := #[68, 68] }) (base : Nat) (v : Value) (l0 : List (Int × Int)) (hs : a.eval s = v) (hown : Og 1 erC 71 base w v l0)
    (v2 : Value) (ls : List (Int × Int)) (hx : a.eval x = v2) (hr : Rg 1 erC w v2 ls) (hl : l0.length + ls.length ≤ 1099511627776) (hbase : base ≤ w.heap.size)
    (h : ∀ v' w', Og 1 erC 71 base w' v' (l0 ++ ls) → w.grownBy w' v.ownBlock → (v'.ownBlock = v.ownBlock ∨ v'.ownBlock = some w.heap.size) → wpList Tryd.prog ops Q rest (a.put o.dst v') w') : wpList Tryd.prog ops Q (o :: rest) a w := by
  obtain ⟨i0, hi, hz0, hz1, hz2⟩ := info_parts infoEr
  obtain ⟨av, cap, rfl, h1, h2, h3⟩ := hr
  by_cases hav : av = none
  · subst hav
    have hl0 : ls = [] := by
      rcases h3 with h3 | ⟨b, off, e, -⟩
      · exact h3
      · cases e
    subst hl0
    refine wpList_plain hgd fun K hK => ?_
    have hx' : a.eval x = .slice none 0 cap := hx
    obtain ⟨v', w', hr, q1, q2, q3⟩ : ∃ v' w', (Builtin.append_ #[68, 68] o.type #[v, .slice none 0 cap]).run Tryd.prog w = .ok v' w' ∧ Og 1 erC 71 base w' v' (l0 ++ []) ∧ w.grownBy w' v.ownBlock ∧ (v'.ownBlock = v.ownBlock ∨ v'.ownBlock = some w.heap.size) := by
      refine ⟨v, w, ?_, by simpa using hown, grown_refl _ _, .inl rfl⟩
      rcases hown.2 with ⟨rfl, h0⟩ | ⟨g, cp, cur, rfl, _, _, hnc, _⟩
      · simp [Builtin.append_, run_underlying Tryd.underlying68, sizeOf, typeInfo, hi, Builtin.lenOf, Builtin.firstCells]
      · simp [Builtin.append_, run_underlying Tryd.underlying68, sizeOf, typeInfo, hi, Builtin.lenOf, Builtin.firstCells, hnc, storeCells]
    unfold Oper.wp execOp
    simp only [ho, resolve, invoke, builtin, Sem.run_bind, Sem.run_pure, Result.andThen_ok, List.map_toArray, List.map_cons, List.map_nil, hs, hx', hr]
    exact hK _ _ (h v' w' q1 q2 q3)
  · obtain ⟨ad, rfl⟩ : ∃ ad, av = some ad := by cases av with | none => exact absurd rfl hav | some ad => exact ⟨ad, rfl⟩
    refine wpList_append_own_at w hgd s x 68 ho base 71 i0 .nilIface 1 16 Tryd.underlying68 hi hz0 hz1 hz2 rfl (by decide) v l0.length (l0.flatMap erC) hs hown ad ls.length cap (ls.flatMap erC) hx (fm_len erC_len ls) ?_ erC_one ?_ ?_ hbase ?_
    · rcases h3 with rfl | ⟨b, off, e, h4⟩
      · intro j u hu; simp at hu
      · cases e
        exact fm_news erC_len h4
    · unfold maxLen; omega
    · omega
    · intro v' w' g1 g2 g3 g4
      refine h v' w' ?_ g2 g4
      rw [Og, List.flatMap_append, List.length_append]; exact g1

/-- faults told within -/
def EfR (l : List (Int × Int)) (w : World) (e : Ending) (w' : World) : Prop := ∃ v, e = .returned v ∧ Og 1 erC 71 w.heap.size w' v l ∧ Below w.heap.size w w'

set_option maxHeartbeats 3200000 in
theorem where1_c (k : Int) (n : Nat) (p : Nat → Bool) (X1 X2 : Nat) (w : World) (hn : n ≤ 30) (hcl : ∀ i W, i < n → Below w.heap.size w W → Calls Tryd.prog 70 #[.int .i64 (i : Int), .pointer (some ⟨X1, 0, none⟩), .pointer (some ⟨X2, 0, none⟩)] W fun e w' => e = .returned (.bool (p i)) ∧ Below W.heap.size W w') :
   Calls Tryd.prog 69 #[.int .i64 k, .int .i64 (n : Int), .func (.func 70) #[] #[.pointer (some ⟨X1, 0, none⟩), .pointer (some ⟨X2, 0, none⟩)]] w (EfR (fw k p n) w) := by
  have HN : Hid (n ≤ 30) := hn
  have HC : Hid (∀ i W, i < n → Below w.heap.size w W → Calls Tryd.prog 70 #[.int .i64 (i : Int), .pointer (some ⟨X1, 0, none⟩), .pointer (some ⟨X2, 0, none⟩)] W fun e w' => e = .returned (.bool (p i)) ∧ Below W.heap.size W w') := hcl
  clear hn hcl
  go_enter Tryd.func69, Tryd.ntmps69
  go_wp2
  go_loopw [7, 10] (fun lv i wr => ∃ (j : Nat) (l : Value), l = lv ∧ i = .int .i64 (j : Int) ∧ j ≤ n ∧ Hid (Og 1 erC 71 w.heap.size wr l (fw k p j)) ∧ Hid (Below w.heap.size w wr)) (fun _ i _ => n - (intOf i).toNat)
  case atStart => exact ⟨0, _, rfl, rfl, Nat.zero_le _, Og.nil _ _ _ _ _, Below.refl _ _⟩
  case round =>
    obtain ⟨j, lv, rfl, rfl, hj, hO, hB⟩ := hrel
    by_cases hlt : j < n
    case neg =>
      obtain rfl : n = j := by omega
      have hnl : ¬ ((n : Int) < (n : Int)) := by omega
      clear hlt hj
      go_wp2
      go_ret
      exact ⟨_, rfl, hO.out, hB.out⟩
    case pos =>
    have hji : (j : Int) < (n : Int) := by omega
    have hwj : wrap64 ((j : Int) + 1) = (j : Int) + 1 := wrap64_in (by have := HN.out; omega)
    have HY : Hid (p j = true → fw k p (j + 1) = fw k p j ++ [(k, (j : Int))]) := fw_yes
    have HX : Hid (p j = false → fw k p (j + 1) = fw k p j) := fw_no
    have HFL : Hid ((fw k p j).length ≤ 1000) := by have := fw_len k p j; have := HN.out; show _ ≤ _; omega
    have HCJ : Hid (Calls Tryd.prog 70 #[.int .i64 (j : Int), .pointer (some ⟨X1, 0, none⟩), .pointer (some ⟨X2, 0, none⟩)] wr fun e w' => e = .returned (.bool (p j)) ∧ Below wr.heap.size wr w') := HC.out j wr hlt hB.out
    obtain ⟨B, hBB⟩ : ∃ B, p j = B := ⟨_, rfl⟩
    rw [hBB] at HY HX HCJ
    have HO1 : Hid (Og 1 erC 71 w.heap.size wr lv (fw k p j)) := hO.out
    have HB1 : Hid (Below w.heap.size w wr) := hB.out
    clear hBB hO hB hj
    go_wp2_with (fail)
    refine HCJ.out.mono ?_
    rintro e w2 ⟨rfl, b2⟩
    have HO2 : Hid (Og 1 erC 71 w.heap.size w2 lv (fw k p j)) := HO1.out.below b2
    have HB2 : Hid (Below w.heap.size w w2) := belowCall HB1.out b2 HB1.out.size
    clear b2 HO1 HB1 HCJ
    cases B with
    | false =>
      have HO3 : Hid (Og 1 erC 71 w.heap.size w2 lv (fw k p (j + 1))) := by show Og _ _ _ _ _ _ _; rw [HX.out (by first | rfl | trivial)]; exact HO2.out
      clear HX HY
      go_wp2
      go_roundw
      case rel => exact ⟨j + 1, _, rfl, by go_num, by omega, HO3.out, HB2.out⟩
      case measure => (rw [hwj]; exact meas18 hlt)
    | true =>
      have HZ : Hid (fw k p (j + 1) = fw k p j ++ [(k, (j : Int))]) := HY.out (by first | rfl | trivial)
      have hi64 : IntKind.i64.wrap (j : Int) = (j : Int) := wrap_i64 (by have := HN.out; omega)
      clear HX HY
      go_wp2_with (fail)
      refine (newFault_c k (j : Int) _).mono ?_
      rintro e w3 ⟨rfl, hw⟩
      rw [hw]
      clear hw w3
      obtain ⟨W4, hW4⟩ : ∃ W, w2.alloc (Obj.cells #[nfV k (j : Int)] 71) = W := ⟨_, rfl⟩
      have ba : Below w2.heap.size w2 W4 := by rw [← hW4]; exact (Below.refl _ _).alloc (Nat.le_refl _) _
      have HC4 : Hid (Blk W4 w2.heap.size #[nfV k (j : Int)] 71) := by show Blk _ _ _ _; rw [← hW4]; exact Blk.new _ _ _
      have HO4 : Hid (Og 1 erC 71 w.heap.size W4 lv (fw k p j)) := HO2.out.below ba
      have HB4 : Hid (Below w.heap.size w W4) := belowCall HB2.out ba HB2.out.size
      have HW4 : Hid (w2.alloc (Obj.cells #[nfV k (j : Int)] 71) = W4) := hW4
      clear hW4 ba HO2 HB2
      go_wp2_with (at_builtin; rw [HW4.out]; refine appE rfl _ _ rfl w.heap.size _ (fw k p j) rfl HO4.out w2.heap.size (k, (j : Int)) rfl HC4.out HFL.out HB4.out.size ?_)
      intro v5 w5 o5 g5 p5
      have HO5 : Hid (Og 1 erC 71 w.heap.size w5 v5 (fw k p (j + 1))) := by show Og _ _ _ _ _ _ _; rw [HZ.out]; exact o5
      have HB5 : Hid (Below w.heap.size w w5) := HB4.out.trans (grown_below g5 HB4.out.size (fun k e => (World.ownsRow.lt HO4.out k e).1))
      clear o5 g5 p5 HO4 HB4 HC4 HW4
      go_wp2
      go_roundw
      case rel => exact ⟨j + 1, _, rfl, by go_num, by omega, HO5.out, HB5.out⟩
      case measure => (rw [hwj]; exact meas18 hlt)

set_option maxHeartbeats 3200000 in
theorem where2_c (k : Int) (n : Nat) (p : Nat → Bool) (X2 : Nat) (w : World) (hn : n ≤ 30) (hcl : ∀ i W, i < n → Below w.heap.size w W → Calls Tryd.prog 72 #[.int .i64 (i : Int), .pointer (some ⟨X2, 0, none⟩)] W fun e w' => e = .returned (.bool (p i)) ∧ Below W.heap.size W w') :
   Calls Tryd.prog 69 #[.int .i64 k, .int .i64 (n : Int), .func (.func 72) #[] #[.pointer (some ⟨X2, 0, none⟩)]] w (EfR (fw k p n) w) := by
  have HN : Hid (n ≤ 30) := hn
  have HC : Hid (∀ i W, i < n → Below w.heap.size w W → Calls Tryd.prog 72 #[.int .i64 (i : Int), .pointer (some ⟨X2, 0, none⟩)] W fun e w' => e = .returned (.bool (p i)) ∧ Below W.heap.size W w') := hcl
  clear hn hcl
  go_enter Tryd.func69, Tryd.ntmps69
  go_wp2
  go_loopw [7, 10] (fun lv i wr => ∃ (j : Nat) (l : Value), l = lv ∧ i = .int .i64 (j : Int) ∧ j ≤ n ∧ Hid (Og 1 erC 71 w.heap.size wr l (fw k p j)) ∧ Hid (Below w.heap.size w wr)) (fun _ i _ => n - (intOf i).toNat)
  case atStart => exact ⟨0, _, rfl, rfl, Nat.zero_le _, Og.nil _ _ _ _ _, Below.refl _ _⟩
  case round =>
    obtain ⟨j, lv, rfl, rfl, hj, hO, hB⟩ := hrel
    by_cases hlt : j < n
    case neg =>
      obtain rfl : n = j := by omega
      have hnl : ¬ ((n : Int) < (n : Int)) := by omega
      clear hlt hj
      go_wp2
      go_ret
      exact ⟨_, rfl, hO.out, hB.out⟩
    case pos =>
    have hji : (j : Int) < (n : Int) := by omega
    have hwj : wrap64 ((j : Int) + 1) = (j : Int) + 1 := wrap64_in (by have := HN.out; omega)
    have HY : Hid (p j = true → fw k p (j + 1) = fw k p j ++ [(k, (j : Int))]) := fw_yes
    have HX : Hid (p j = false → fw k p (j + 1) = fw k p j) := fw_no
    have HFL : Hid ((fw k p j).length ≤ 1000) := by have := fw_len k p j; have := HN.out; show _ ≤ _; omega
    have HCJ : Hid (Calls Tryd.prog 72 #[.int .i64 (j : Int), .pointer (some ⟨X2, 0, none⟩)] wr fun e w' => e = .returned (.bool (p j)) ∧ Below wr.heap.size wr w') := HC.out j wr hlt hB.out
    obtain ⟨B, hBB⟩ : ∃ B, p j = B := ⟨_, rfl⟩
    rw [hBB] at HY HX HCJ
    have HO1 : Hid (Og 1 erC 71 w.heap.size wr lv (fw k p j)) := hO.out
    have HB1 : Hid (Below w.heap.size w wr) := hB.out
    clear hBB hO hB hj
    go_wp2_with (fail)
    refine HCJ.out.mono ?_
    rintro e w2 ⟨rfl, b2⟩
    have HO2 : Hid (Og 1 erC 71 w.heap.size w2 lv (fw k p j)) := HO1.out.below b2
    have HB2 : Hid (Below w.heap.size w w2) := belowCall HB1.out b2 HB1.out.size
    clear b2 HO1 HB1 HCJ
    cases B with
    | false =>
      have HO3 : Hid (Og 1 erC 71 w.heap.size w2 lv (fw k p (j + 1))) := by show Og _ _ _ _ _ _ _; rw [HX.out (by first | rfl | trivial)]; exact HO2.out
      clear HX HY
      go_wp2
      go_roundw
      case rel => exact ⟨j + 1, _, rfl, by go_num, by omega, HO3.out, HB2.out⟩
      case measure => (rw [hwj]; exact meas18 hlt)
    | true =>
      have HZ : Hid (fw k p (j + 1) = fw k p j ++ [(k, (j : Int))]) := HY.out (by first | rfl | trivial)
      have hi64 : IntKind.i64.wrap (j : Int) = (j : Int) := wrap_i64 (by have := HN.out; omega)
      clear HX HY
      go_wp2_with (fail)
      refine (newFault_c k (j : Int) _).mono ?_
      rintro e w3 ⟨rfl, hw⟩
      rw [hw]
      clear hw w3
      obtain ⟨W4, hW4⟩ : ∃ W, w2.alloc (Obj.cells #[nfV k (j : Int)] 71) = W := ⟨_, rfl⟩
      have ba : Below w2.heap.size w2 W4 := by rw [← hW4]; exact (Below.refl _ _).alloc (Nat.le_refl _) _
      have HC4 : Hid (Blk W4 w2.heap.size #[nfV k (j : Int)] 71) := by show Blk _ _ _ _; rw [← hW4]; exact Blk.new _ _ _
      have HO4 : Hid (Og 1 erC 71 w.heap.size W4 lv (fw k p j)) := HO2.out.below ba
      have HB4 : Hid (Below w.heap.size w W4) := belowCall HB2.out ba HB2.out.size
      have HW4 : Hid (w2.alloc (Obj.cells #[nfV k (j : Int)] 71) = W4) := hW4
      clear hW4 ba HO2 HB2
      go_wp2_with (at_builtin; rw [HW4.out]; refine appE rfl _ _ rfl w.heap.size _ (fw k p j) rfl HO4.out w2.heap.size (k, (j : Int)) rfl HC4.out HFL.out HB4.out.size ?_)
      intro v5 w5 o5 g5 p5
      have HO5 : Hid (Og 1 erC 71 w.heap.size w5 v5 (fw k p (j + 1))) := by show Og _ _ _ _ _ _ _; rw [HZ.out]; exact o5
      have HB5 : Hid (Below w.heap.size w w5) := HB4.out.trans (grown_below g5 HB4.out.size (fun k e => (World.ownsRow.lt HO4.out k e).1))
      clear o5 g5 p5 HO4 HB4 HC4 HW4
      go_wp2
      go_roundw
      case rel => exact ⟨j + 1, _, rfl, by go_num, by omega, HO5.out, HB5.out⟩
      case measure => (rw [hwj]; exact meas18 hlt)

set_option maxHeartbeats 3200000 in
theorem where3_c (k : Int) (n : Nat) (p : Nat → Bool) (X1 X2 : Nat) (w : World) (hn : n ≤ 30) (hcl : ∀ i W, i < n → Below w.heap.size w W → Calls Tryd.prog 84 #[.int .i64 (i : Int), .pointer (some ⟨X1, 0, none⟩), .pointer (some ⟨X2, 0, none⟩)] W fun e w' => e = .returned (.bool (p i)) ∧ Below W.heap.size W w') :
   Calls Tryd.prog 69 #[.int .i64 k, .int .i64 (n : Int), .func (.func 84) #[] #[.pointer (some ⟨X1, 0, none⟩), .pointer (some ⟨X2, 0, none⟩)]] w (EfR (fw k p n) w) := by
  have HN : Hid (n ≤ 30) := hn
  have HC : Hid (∀ i W, i < n → Below w.heap.size w W → Calls Tryd.prog 84 #[.int .i64 (i : Int), .pointer (some ⟨X1, 0, none⟩), .pointer (some ⟨X2, 0, none⟩)] W fun e w' => e = .returned (.bool (p i)) ∧ Below W.heap.size W w') := hcl
  clear hn hcl
  go_enter Tryd.func69, Tryd.ntmps69
  go_wp2
  go_loopw [7, 10] (fun lv i wr => ∃ (j : Nat) (l : Value), l = lv ∧ i = .int .i64 (j : Int) ∧ j ≤ n ∧ Hid (Og 1 erC 71 w.heap.size wr l (fw k p j)) ∧ Hid (Below w.heap.size w wr)) (fun _ i _ => n - (intOf i).toNat)
  case atStart => exact ⟨0, _, rfl, rfl, Nat.zero_le _, Og.nil _ _ _ _ _, Below.refl _ _⟩
  case round =>
    obtain ⟨j, lv, rfl, rfl, hj, hO, hB⟩ := hrel
    by_cases hlt : j < n
    case neg =>
      obtain rfl : n = j := by omega
      have hnl : ¬ ((n : Int) < (n : Int)) := by omega
      clear hlt hj
      go_wp2
      go_ret
      exact ⟨_, rfl, hO.out, hB.out⟩
    case pos =>
    have hji : (j : Int) < (n : Int) := by omega
    have hwj : wrap64 ((j : Int) + 1) = (j : Int) + 1 := wrap64_in (by have := HN.out; omega)
    have HY : Hid (p j = true → fw k p (j + 1) = fw k p j ++ [(k, (j : Int))]) := fw_yes
    have HX : Hid (p j = false → fw k p (j + 1) = fw k p j) := fw_no
    have HFL : Hid ((fw k p j).length ≤ 1000) := by have := fw_len k p j; have := HN.out; show _ ≤ _; omega
    have HCJ : Hid (Calls Tryd.prog 84 #[.int .i64 (j : Int), .pointer (some ⟨X1, 0, none⟩), .pointer (some ⟨X2, 0, none⟩)] wr fun e w' => e = .returned (.bool (p j)) ∧ Below wr.heap.size wr w') := HC.out j wr hlt hB.out
    obtain ⟨B, hBB⟩ : ∃ B, p j = B := ⟨_, rfl⟩
    rw [hBB] at HY HX HCJ
    have HO1 : Hid (Og 1 erC 71 w.heap.size wr lv (fw k p j)) := hO.out
    have HB1 : Hid (Below w.heap.size w wr) := hB.out
    clear hBB hO hB hj
    go_wp2_with (fail)
    refine HCJ.out.mono ?_
    rintro e w2 ⟨rfl, b2⟩
    have HO2 : Hid (Og 1 erC 71 w.heap.size w2 lv (fw k p j)) := HO1.out.below b2
    have HB2 : Hid (Below w.heap.size w w2) := belowCall HB1.out b2 HB1.out.size
    clear b2 HO1 HB1 HCJ
    cases B with
    | false =>
      have HO3 : Hid (Og 1 erC 71 w.heap.size w2 lv (fw k p (j + 1))) := by show Og _ _ _ _ _ _ _; rw [HX.out (by first | rfl | trivial)]; exact HO2.out
      clear HX HY
      go_wp2
      go_roundw
      case rel => exact ⟨j + 1, _, rfl, by go_num, by omega, HO3.out, HB2.out⟩
      case measure => (rw [hwj]; exact meas18 hlt)
    | true =>
      have HZ : Hid (fw k p (j + 1) = fw k p j ++ [(k, (j : Int))]) := HY.out (by first | rfl | trivial)
      have hi64 : IntKind.i64.wrap (j : Int) = (j : Int) := wrap_i64 (by have := HN.out; omega)
      clear HX HY
      go_wp2_with (fail)
      refine (newFault_c k (j : Int) _).mono ?_
      rintro e w3 ⟨rfl, hw⟩
      rw [hw]
      clear hw w3
      obtain ⟨W4, hW4⟩ : ∃ W, w2.alloc (Obj.cells #[nfV k (j : Int)] 71) = W := ⟨_, rfl⟩
      have ba : Below w2.heap.size w2 W4 := by rw [← hW4]; exact (Below.refl _ _).alloc (Nat.le_refl _) _
      have HC4 : Hid (Blk W4 w2.heap.size #[nfV k (j : Int)] 71) := by show Blk _ _ _ _; rw [← hW4]; exact Blk.new _ _ _
      have HO4 : Hid (Og 1 erC 71 w.heap.size W4 lv (fw k p j)) := HO2.out.below ba
      have HB4 : Hid (Below w.heap.size w W4) := belowCall HB2.out ba HB2.out.size
      have HW4 : Hid (w2.alloc (Obj.cells #[nfV k (j : Int)] 71) = W4) := hW4
      clear hW4 ba HO2 HB2
      go_wp2_with (at_builtin; rw [HW4.out]; refine appE rfl _ _ rfl w.heap.size _ (fw k p j) rfl HO4.out w2.heap.size (k, (j : Int)) rfl HC4.out HFL.out HB4.out.size ?_)
      intro v5 w5 o5 g5 p5
      have HO5 : Hid (Og 1 erC 71 w.heap.size w5 v5 (fw k p (j + 1))) := by show Og _ _ _ _ _ _ _; rw [HZ.out]; exact o5
      have HB5 : Hid (Below w.heap.size w w5) := HB4.out.trans (grown_below g5 HB4.out.size (fun k e => (World.ownsRow.lt HO4.out k e).1))
      clear o5 g5 p5 HO4 HB4 HC4 HW4
      go_wp2
      go_roundw
      case rel => exact ⟨j + 1, _, rfl, by go_num, by omega, HO5.out, HB5.out⟩
      case measure => (rw [hwj]; exact meas18 hlt)

set_option maxHeartbeats 3200000 in
theorem where4_c (k : Int) (n : Nat) (p : Nat → Bool) (X1 X2 : Nat) (w : World) (hn : n ≤ 30) (hcl : ∀ i W, i < n → Below w.heap.size w W → Calls Tryd.prog 85 #[.int .i64 (i : Int), .pointer (some ⟨X1, 0, none⟩), .pointer (some ⟨X2, 0, none⟩)] W fun e w' => e = .returned (.bool (p i)) ∧ Below W.heap.size W w') :
   Calls Tryd.prog 69 #[.int .i64 k, .int .i64 (n : Int), .func (.func 85) #[] #[.pointer (some ⟨X1, 0, none⟩), .pointer (some ⟨X2, 0, none⟩)]] w (EfR (fw k p n) w) := by
  have HN : Hid (n ≤ 30) := hn
  have HC : Hid (∀ i W, i < n → Below w.heap.size w W → Calls Tryd.prog 85 #[.int .i64 (i : Int), .pointer (some ⟨X1, 0, none⟩), .pointer (some ⟨X2, 0, none⟩)] W fun e w' => e = .returned (.bool (p i)) ∧ Below W.heap.size W w') := hcl
  clear hn hcl
  go_enter Tryd.func69, Tryd.ntmps69
  go_wp2
  go_loopw [7, 10] (fun lv i wr => ∃ (j : Nat) (l : Value), l = lv ∧ i = .int .i64 (j : Int) ∧ j ≤ n ∧ Hid (Og 1 erC 71 w.heap.size wr l (fw k p j)) ∧ Hid (Below w.heap.size w wr)) (fun _ i _ => n - (intOf i).toNat)
  case atStart => exact ⟨0, _, rfl, rfl, Nat.zero_le _, Og.nil _ _ _ _ _, Below.refl _ _⟩
  case round =>
    obtain ⟨j, lv, rfl, rfl, hj, hO, hB⟩ := hrel
    by_cases hlt : j < n
    case neg =>
      obtain rfl : n = j := by omega
      have hnl : ¬ ((n : Int) < (n : Int)) := by omega
      clear hlt hj
      go_wp2
      go_ret
      exact ⟨_, rfl, hO.out, hB.out⟩
    case pos =>
    have hji : (j : Int) < (n : Int) := by omega
    have hwj : wrap64 ((j : Int) + 1) = (j : Int) + 1 := wrap64_in (by have := HN.out; omega)
    have HY : Hid (p j = true → fw k p (j + 1) = fw k p j ++ [(k, (j : Int))]) := fw_yes
    have HX : Hid (p j = false → fw k p (j + 1) = fw k p j) := fw_no
    have HFL : Hid ((fw k p j).length ≤ 1000) := by have := fw_len k p j; have := HN.out; show _ ≤ _; omega
    have HCJ : Hid (Calls Tryd.prog 85 #[.int .i64 (j : Int), .pointer (some ⟨X1, 0, none⟩), .pointer (some ⟨X2, 0, none⟩)] wr fun e w' => e = .returned (.bool (p j)) ∧ Below wr.heap.size wr w') := HC.out j wr hlt hB.out
    obtain ⟨B, hBB⟩ : ∃ B, p j = B := ⟨_, rfl⟩
    rw [hBB] at HY HX HCJ
    have HO1 : Hid (Og 1 erC 71 w.heap.size wr lv (fw k p j)) := hO.out
    have HB1 : Hid (Below w.heap.size w wr) := hB.out
    clear hBB hO hB hj
    go_wp2_with (fail)
    refine HCJ.out.mono ?_
    rintro e w2 ⟨rfl, b2⟩
    have HO2 : Hid (Og 1 erC 71 w.heap.size w2 lv (fw k p j)) := HO1.out.below b2
    have HB2 : Hid (Below w.heap.size w w2) := belowCall HB1.out b2 HB1.out.size
    clear b2 HO1 HB1 HCJ
    cases B with
    | false =>
      have HO3 : Hid (Og 1 erC 71 w.heap.size w2 lv (fw k p (j + 1))) := by show Og _ _ _ _ _ _ _; rw [HX.out (by first | rfl | trivial)]; exact HO2.out
      clear HX HY
      go_wp2
      go_roundw
      case rel => exact ⟨j + 1, _, rfl, by go_num, by omega, HO3.out, HB2.out⟩
      case measure => (rw [hwj]; exact meas18 hlt)
    | true =>
      have HZ : Hid (fw k p (j + 1) = fw k p j ++ [(k, (j : Int))]) := HY.out (by first | rfl | trivial)
      have hi64 : IntKind.i64.wrap (j : Int) = (j : Int) := wrap_i64 (by have := HN.out; omega)
      clear HX HY
      go_wp2_with (fail)
      refine (newFault_c k (j : Int) _).mono ?_
      rintro e w3 ⟨rfl, hw⟩
      rw [hw]
      clear hw w3
      obtain ⟨W4, hW4⟩ : ∃ W, w2.alloc (Obj.cells #[nfV k (j : Int)] 71) = W := ⟨_, rfl⟩
      have ba : Below w2.heap.size w2 W4 := by rw [← hW4]; exact (Below.refl _ _).alloc (Nat.le_refl _) _
      have HC4 : Hid (Blk W4 w2.heap.size #[nfV k (j : Int)] 71) := by show Blk _ _ _ _; rw [← hW4]; exact Blk.new _ _ _
      have HO4 : Hid (Og 1 erC 71 w.heap.size W4 lv (fw k p j)) := HO2.out.below ba
      have HB4 : Hid (Below w.heap.size w W4) := belowCall HB2.out ba HB2.out.size
      have HW4 : Hid (w2.alloc (Obj.cells #[nfV k (j : Int)] 71) = W4) := hW4
      clear hW4 ba HO2 HB2
      go_wp2_with (at_builtin; rw [HW4.out]; refine appE rfl _ _ rfl w.heap.size _ (fw k p j) rfl HO4.out w2.heap.size (k, (j : Int)) rfl HC4.out HFL.out HB4.out.size ?_)
      intro v5 w5 o5 g5 p5
      have HO5 : Hid (Og 1 erC 71 w.heap.size w5 v5 (fw k p (j + 1))) := by show Og _ _ _ _ _ _ _; rw [HZ.out]; exact o5
      have HB5 : Hid (Below w.heap.size w w5) := HB4.out.trans (grown_below g5 HB4.out.size (fun k e => (World.ownsRow.lt HO4.out k e).1))
      clear o5 g5 p5 HO4 HB4 HC4 HW4
      go_wp2
      go_roundw
      case rel => exact ⟨j + 1, _, rfl, by go_num, by omega, HO5.out, HB5.out⟩
      case measure => (rw [hwj]; exact meas18 hlt)

end Go.Proofs.YtmfmlbiplagmiaaDoor
