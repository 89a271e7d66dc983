/- Digit of the model; no condition. -/
import Derived.Test.YtgdejlofkjdkoaaDoorDmb
namespace Go.Proofs.YtgdejlofkjdkoaaDoor
open Go.RowKit Go.ChangeShapes Go.WideShapes Go.ChangeAt
set_option linter.unusedVariables false
set_option linter.unusedSimpArgs false
set_option maxRecDepth 8000

/-- append to a row in block g: where the answer lies -/
theorem appK {ops : Array Oper} {rest : List Oper} {o : Oper} {a : Act} {w : World} {Q : Exit → Act → World → Prop} (hgd : o.guard = none) (s x : Operand)
    (ho : o.op = .call { callee := .builtin .append, args := #[s, x], argTypes := #[25, 25] }) (base : Nat) (v : Value) (b : Nat) (hvb : v.ownBlock = some b) (zs : List Int) (hs : a.eval s = v) (hown : Ow .i64 3 base w v zs)
    (g : Nat) (z : Int) (hx : a.eval x = .slice (some ⟨g, 0, none⟩) 1 1) (hc : w.cell? ⟨g, 0, none⟩ = some (.int .i64 z)) (hl : zs.length ≤ 1099511627776) (hbase : base ≤ w.heap.size)
    (h : ∀ v' w' b', v'.ownBlock = some b' → (b' = b ∨ b' = w.heap.size) → Ow .i64 3 base w' v' (zs ++ [z]) → w.grownBy w' (some b) → wpList Tryd.prog ops Q rest (a.put o.dst v') w') : wpList Tryd.prog ops Q (o :: rest) a w := by
  obtain ⟨i0, hi, hz0, hz1, hz2⟩ := info_parts toIInfo
  have hnews : ∀ j u, [Value.int .i64 z][j]? = some u → w.cell? ((⟨g, 0, none⟩ : Addr).add j) = some u := fun j u hj => by
    match j, hj with
    | 0, hj => simp at hj; subst hj; simpa [Addr.add] using hc
  have hml : zs.length + 1 ≤ maxLen := by unfold maxLen; omega
  obtain ⟨v', w', hr, h2, h3, -⟩ := run_append_own (P := Tryd.prog) w base 25 o.type 3 i0 (.int .i64 0) 1 8 Tryd.underlying25 hi hz0 hz1 hz2 rfl (by decide) v zs.length (zs.map (Value.int .i64)) hown ⟨g, 0, none⟩ 1 1 [.int .i64 z] rfl hnews (by intro u hu; simp at hu; subst hu; rfl) hml (by omega) hbase
  have hbl : ∃ b', v'.ownBlock = some b' ∧ (b' = b ∨ b' = w.heap.size) := by
    rcases hown.2 with ⟨rfl, hn⟩ | ⟨b0, cap, cur, rfl, hb, hg, hnc, hcm, hcs, ht⟩
    · cases hvb
    · obtain rfl : b0 = b := by simpa [Value.ownBlock] using hvb
      by_cases hroom : zs.length + 1 ≤ cap
      · have hr2 := run_append_room (P := Tryd.prog) w 25 o.type 3 i0 Tryd.underlying25 hi b0 zs.length cap cur hg ⟨g, 0, none⟩ 1 1 [.int .i64 z] (by simp [hz1]) hnews (by intro u hu; simp at hu; subst hu; rfl) hroom (by rw [hz1, hcs]; simp; omega)
        have e := hr.symm.trans hr2
        cases e
        exact ⟨_, rfl, .inl rfl⟩
      · have holds : ∀ j u, (zs.map (Value.int .i64))[j]? = some u → w.cell? ((⟨b0, 0, none⟩ : Addr).add j) = some u := hown.cells (g := b0) rfl
        have hr2 := run_append_grow (P := Tryd.prog) w 25 o.type 3 i0 (.int .i64 0) Tryd.underlying25 hi hz0 ⟨b0, 0, none⟩ zs.length cap (zs.map (Value.int .i64)) (by simp [hz1]) holds ⟨g, 0, none⟩ 1 1 [.int .i64 z] (by simp [hz1]) hnews (by omega) (by unfold maxLen at hml; omega) (growslice_fits (by omega) (by rw [hz2]; omega))
        have e := hr.symm.trans hr2
        cases e
        exact ⟨_, rfl, .inr rfl⟩
  obtain ⟨b', hb1, hb2⟩ := hbl
  refine wpList_plain hgd fun K hK => ?_
  unfold Oper.wp
  simp only [execOp, ho, resolve, invoke, builtin, Sem.run_bind, Sem.run_pure, Result.andThen_ok, List.map_toArray, List.map_cons, List.map_nil, hs, hx]
  rw [hr]
  rw [hvb] at h3
  refine hK _ _ (h v' w' b' hb1 hb2 ?_ h3)
  simpa [Ow] using h2
/-- the first j of four -/
def t4 (p : Nat → Int) (j : Nat) : List Int := (List.range j).map p
theorem t4_succ (p : Nat → Int) (j : Nat) : t4 p (j + 1) = t4 p j ++ [p j] := by simp [t4, List.range_succ]
theorem t4_len (p : Nat → Int) (j : Nat) : (t4 p j).length = j := by simp [t4]
/-- two rows that grow, apart -/
structure G2 (B : Nat) (w : World) (v1 v2 : Value) (b1 b2 : Nat) (l1 l2 : List Int) (W : World) : Prop where
  e1 : v1.ownBlock = some b1
  e2 : v2.ownBlock = some b2
  o1 : Ow .i64 3 B W v1 l1
  o2 : Ow .i64 3 B W v2 l2
  ne : b1 ≠ b2
  b : Below B w W
theorem G2.call {B : Nat} {w : World} {v1 v2 : Value} {b1 b2 : Nat} {l1 l2 : List Int} {W W' : World} (h : G2 B w v1 v2 b1 b2 l1 l2 W) (hB : B ≤ W.heap.size) (hb : Below W.heap.size W W') : G2 B w v1 v2 b1 b2 l1 l2 W' := ⟨h.e1, h.e2, h.o1.below hb, h.o2.below hb, h.ne, belowCall h.b hb hB⟩
theorem G2.app1 {B : Nat} {w : World} {v1 v2 v' : Value} {b1 b2 b' : Nat} {l1 l2 l' : List Int} {W W' : World} (h : G2 B w v1 v2 b1 b2 l1 l2 W) (hB : B ≤ W.heap.size) (he : v'.ownBlock = some b') (hb : b' = b1 ∨ b' = W.heap.size) (ho : Ow .i64 3 B W' v' l') (hg : W.grownBy W' (some b1)) : G2 B w v' v2 b' b2 l' l2 W' :=
  ⟨he, h.e2, ho, World.ownsRow.kept h.o2 hg (.inr (by rw [h.e2]; simp; exact Ne.symm h.ne)), by
    have := (World.ownsRow.lt h.o2 b2 h.e2).2
    rcases hb with rfl | rfl
    · exact h.ne
    · omega, h.b.grown hg hB (fun j hj => by simp at hj; subst hj; exact (World.ownsRow.lt h.o1 _ h.e1).1)⟩
theorem G2.app2 {B : Nat} {w : World} {v1 v2 v' : Value} {b1 b2 b' : Nat} {l1 l2 l' : List Int} {W W' : World} (h : G2 B w v1 v2 b1 b2 l1 l2 W) (hB : B ≤ W.heap.size) (he : v'.ownBlock = some b') (hb : b' = b2 ∨ b' = W.heap.size) (ho : Ow .i64 3 B W' v' l') (hg : W.grownBy W' (some b2)) : G2 B w v1 v' b1 b' l1 l' W' :=
  ⟨h.e1, he, World.ownsRow.kept h.o1 hg (.inr (by rw [h.e1]; simp; exact h.ne)), ho, by
    have := (World.ownsRow.lt h.o1 b1 h.e1).2
    rcases hb with rfl | rfl
    · exact h.ne
    · omega, h.b.grown hg hB (fun j hj => by simp at hj; subst hj; exact (World.ownsRow.lt h.o2 _ h.e2).1)⟩
theorem rowJ_c (j : Nat) (hj : j < 4) (w : World) : Calls Tryd.prog 41 #[.int .i64 (4 * (j : Int))] w fun e w' => e = .returned (.int .i64 (12 + 2 * (j : Int))) ∧ w' = w := by
  have := rowM_c (4 * j) (by omega) w
  rw [show ((4 * j : Nat) : Int) = 4 * (j : Int) by omega, show 4 * j / 4 = j by omega] at this
  exact this
theorem colJ_c (j : Nat) (hj : j < 4) (w : World) : Calls Tryd.prog 42 #[.int .i64 (j : Int)] w fun e w' => e = .returned (.int .i64 (22 + 4 * (j : Int))) ∧ w' = w := by
  have := colM_c j (by omega) w
  rw [show j % 4 = j by omega] at this
  exact this
theorem t4_4 (p : Nat → Int) : t4 p 4 = l4 p := by simp [t4, l4, List.range_succ]
set_option maxHeartbeats 6400000 in
theorem digitM_c (v : Value) (zs : List Int) (w : World) (h : Rd .i64 w v zs) : Calls Tryd.prog 14 #[v] w fun e w' => e = .returned (.int .i64 (dgF zs)) ∧ Below w.heap.size w w' := by
  have HR : Hid (Rd .i64 w v zs) := h
  have HB : Hid (Below w.heap.size w w) := Below.refl _ _
  obtain ⟨a, cap, rfl, h1, h2, h3⟩ := h
  unfold maxLen at h2
  obtain ⟨r, hr⟩ : ∃ r, bst (rwP zs) 4 = r := ⟨_, rfl⟩
  obtain ⟨c, hc⟩ : ∃ r, bst (clP zs) 4 = r := ⟨_, rfl⟩
  have hrl : r < 4 := by have h3 : bst (rwP zs) 4 ≤ 3 := bst_le (rwP zs) 3; omega
  have hcl : c < 4 := by have h3 : bst (clP zs) 4 ≤ 3 := bst_le (clP zs) 3; omega
  have HD : Hid (dgF zs = if (decide (zs.length = 128) && lvB zs && dgB zs (rwP zs r) (clP zs c) (outB (rwP zs) r 4) (outB (clP zs) c 4)) = true then 4 * (r : Int) + c else -1) := by show _ = _; unfold dgF; rw [hr, hc]
  have HRR : Hid (bst (rwP zs) 4 = r) := hr
  have HCC : Hid (bst (clP zs) 4 = c) := hc
  clear hr hc
  by_cases hl : zs.length = 128
  case neg =>
    have hld : ((zs.length : Int) != 128) = true := by simp; omega
    have HF : Hid (dgF zs = -1) := by show _ = _; rw [HD.out]; simp [hl]
    clear hl h3
    go_enter Tryd.func14, Tryd.ntmps14
    go_wp2
    go_ret
    exact ⟨by rw [HF.out]; rfl, HB.out⟩
  have hld : ((zs.length : Int) != 128) = false := by simp; omega
  have HL : Hid (decide (zs.length = 128) = true) := by show _ = _; simp; exact hl
  have hl' : zs.length ≤ 128 := by omega
  have HLE : Hid (zs.length = 128) := hl
  rcases h3 with h3 | ⟨b, off, rfl, h4⟩
  · subst h3; simp at hl
  have H4 : Hid (∀ W, Below w.heap.size w W → ∀ i, i < zs.length → W.cell? ⟨b, off + i, none⟩ = some (.int .i64 (zs.getD i 0))) := fun W hW i hi => by
    have := h4 i hi
    rw [hW.cell (block_lt_of_cell this)]; exact this
  clear h4 hl
  go_enter Tryd.func14, Tryd.ntmps14
  go_wp2_with (fail)
  refine (levelsM_c _ zs 128 (by omega) _ HR.out).mono ?_
  rintro e w1 ⟨rfl, b1⟩
  have HB1 : Hid (Below w.heap.size w w1) := b1
  obtain ⟨x, hx⟩ : ∃ x, lvB zs = x := ⟨_, rfl⟩
  have dl : decide (zs.length ≤ 128) = true := by simp; omega
  rw [hx, dl]
  have HX : Hid (lvB zs = x) := hx
  clear b1 hx dl
  cases x with
  | false =>
    have HF : Hid (dgF zs = -1) := by show _ = _; rw [HD.out, HX.out]; simp
    go_wp2
    go_ret
    exact ⟨by rw [HF.out]; rfl, HB1.out⟩
  | true =>
  have HLV : Hid (lvP zs) := lvB_P HX.out
  have HBP : Hid (∀ i, i < 4 → 0 ≤ rwP zs i ∧ rwP zs i ≤ 35184372088832) := fun i _ => pw_bd HLV.out hl' _
  have HBC : Hid (∀ i, i < 4 → 0 ≤ clP zs i ∧ clP zs i ≤ 35184372088832) := fun i _ => pw_bd HLV.out hl' _
  go_wp2_with (fail)
  refine (tableM_c w1).mono ?_
  rintro e w2 ⟨vt, rfl, ho, hb⟩
  have HQ2 : Hid (Rd .i64 w2 vt wvR) := ho.rd
  have HB2 : Hid (Below w.heap.size w w2) := belowCall HB1.out hb HB1.out.size
  clear ho hb
  have HG2 : Hid (G2 w2.heap.size w2 (.slice (some ⟨w2.heap.size, 0, none⟩) 0 0) (.slice (some ⟨w2.heap.size + 1, 0, none⟩) 0 0) w2.heap.size (w2.heap.size + 1) (t4 (rwP zs) 0) (t4 (clP zs) 0) ((w2.alloc (Obj.cells #[] 3)).alloc (Obj.cells #[] 3))) := by
    refine ⟨rfl, rfl, Ow.alloc (Ow.empty _ _ _ _ (Nat.le_refl _)) _, ?_, by omega, ((Below.refl _ _).alloc (Nat.le_refl _) _).alloc (by simp) _⟩
    have := Ow.empty .i64 3 w2.heap.size (w2.alloc (Obj.cells #[] 3)) (by simp)
    simpa [t4] using this
  go_wp2
  go_loopw [4, 5, 7] (fun u1 u2 i wr => ∃ (j : Nat) (v1 v2 : Value) (b1 b2 : Nat), j ≤ 4 ∧ i = .int .i64 j ∧ v1 = u1 ∧ v2 = u2 ∧ Hid (G2 w2.heap.size w2 v1 v2 b1 b2 (t4 (rwP zs) j) (t4 (clP zs) j) wr)) (fun _ _ i _ => 4 - (intOf i).toNat)
  case atStart => exact ⟨0, _, _, _, _, Nat.zero_le _, rfl, rfl, rfl, HG2.out⟩
  case round =>
    obtain ⟨j, v1, v2, b1, b2, hj, rfl, rfl, rfl, hGwr⟩ := hrel
    clear HG2
    by_cases hlt : j < 4
    case neg =>
      obtain rfl : j = 4 := by omega
      obtain ⟨WR, rfl⟩ : ∃ W, W = wr := ⟨_, rfl⟩
      rw [show ((4 : Nat) : Int) = 4 from rfl]
      have HV1 : Hid (Rd .i64 WR v1 (l4 (rwP zs))) := by have := hGwr.out.o1.rd; rw [t4_4] at this; exact this
      have HV2 : Hid (Rd .i64 WR v2 (l4 (clP zs))) := by have := hGwr.out.o2.rd; rw [t4_4] at this; exact this
      have HBW : Hid (Below w.heap.size w WR) := belowCall HB2.out hGwr.out.b HB2.out.size
      clear hGwr HQ2 HB2
      go_wp2
      go_loopw [6, 8] (fun u i wq => ∃ j : Nat, j ≤ zs.length ∧ i = .int .i64 j ∧ u = .int .i64 (enF zs j) ∧ Hid (Below WR.heap.size WR wq)) (fun _ i _ => zs.length - (intOf i).toNat)
      case atStart => exact ⟨0, Nat.zero_le _, rfl, rfl, Below.refl _ _⟩
      case round =>
        obtain ⟨j, hj, rfl, rfl, hbq⟩ := hrel
        have hb1 := enF_bd HLV.out j hj
        have hl8 := HLE.out
        by_cases hlt : j < zs.length
        case pos =>
          have HS : Hid (enF zs (j + 1) = enF zs j + zs.getD j 0 * zs.getD j 0) := rfl
          have hc := H4.out _ (belowCall HBW.out hbq.out HBW.out.size) j hlt
          have hsq := sq_bd (HLV.out j hlt)
          have hi1 : (0 : Int) ≤ (j : Int) := by omega
          have hi2 : (j : Int) < (zs.length : Int) := by omega
          obtain ⟨x, hx⟩ : ∃ x, enF zs j = x := ⟨_, rfl⟩
          obtain ⟨y, hy⟩ : ∃ y, zs.getD j 0 = y := ⟨_, rfl⟩
          rw [hx] at hb1 HS ⊢
          rw [hy] at hc HS hsq
          obtain ⟨yy, hyy⟩ : ∃ z, y * y = z := ⟨_, rfl⟩
          rw [hyy] at HS hsq
          clear hx hy
          go_wp2
          go_quiet (fail)
          go_wp2
          go_roundw
          case rel => exact ⟨j + 1, by omega, by go_num, by rw [HS.out], below_drewN hbq.out _⟩
          case measure => simp [intOf]; omega
        case neg =>
        obtain rfl : j = zs.length := by omega
        have HE : Hid (enF zs zs.length = enF zs 128) := by show _ = _; rw [hl8]
        obtain ⟨E, hE⟩ : ∃ x, enF zs zs.length = x := ⟨_, rfl⟩
        rw [hE] at hb1 HE ⊢
        clear hE
        have hEb : 0 ≤ E ∧ E ≤ 1073676289 * 128 := by omega
        clear hb1 hl8
        go_wp2_with (fail)
        refine (bestM_c v1 (rwP zs) HBP.out _ (HV1.out.below hbq.out)).mono ?_
        rintro e w5 ⟨rfl, b5⟩
        have HB5 : Hid (Below WR.heap.size WR w5) := belowCall hbq.out b5 hbq.out.size
        rw [HRR.out]
        clear b5 hbq
        go_wp2_with (fail)
        refine (bestM_c v2 (clP zs) HBC.out w5 (HV2.out.below HB5.out)).mono ?_
        rintro e w6 ⟨rfl, b6⟩
        have HB6 : Hid (Below w.heap.size w w6) := belowCall HBW.out (belowCall HB5.out b6 HB5.out.size) HBW.out.size
        rw [HCC.out]
        clear b6 HB5
        have bP := HBP.out r hrl
        have bQ := HBC.out c hcl
        obtain ⟨P, hP⟩ : ∃ P, rwP zs r = P := ⟨_, rfl⟩
        obtain ⟨Q, hQ⟩ : ∃ Q, clP zs c = Q := ⟨_, rfl⟩
        rw [hP] at HD bP ⊢
        rw [hQ] at HD bQ ⊢
        clear hP hQ
        obtain ⟨o1, ho1⟩ : ∃ o, outB (rwP zs) r 4 = o := ⟨_, rfl⟩
        obtain ⟨o2, ho2⟩ : ∃ o, outB (clP zs) c 4 = o := ⟨_, rfl⟩
        rw [ho1] at HD ⊢
        rw [ho2] at HD ⊢
        clear ho1 ho2
        have HDB : Hid (dgB zs P Q o1 o2 = (o1 && o2 && decide (1000000 ≤ P) && decide (1000000 ≤ Q) && decide (P ≤ 8 * Q) && decide (Q ≤ 8 * P) && decide (128 * E ≤ 4 * (P + Q)))) := by show _ = _; unfold dgB; rw [HE.out]
        have HDD : Hid (dgF zs = if (o1 && o2 && decide (1000000 ≤ P) && decide (1000000 ≤ Q) && decide (P ≤ 8 * Q) && decide (Q ≤ 8 * P) && decide (128 * E ≤ 4 * (P + Q))) = true then 4 * (r : Int) + c else -1) := by show _ = _; rw [HD.out, HL.out, HX.out, HDB.out]; rfl
        clear HD HDB
        by_cases k1 : o1 = true
        case neg =>
          obtain rfl : o1 = false := by simpa using k1
          go_wp2
          go_ret
          exact ⟨by rw [HDD.out]; simp, HB6.out⟩
        subst k1
        by_cases k2 : o2 = true
        case neg =>
          obtain rfl : o2 = false := by simpa using k2
          go_wp2
          go_ret
          exact ⟨by rw [HDD.out]; simp, HB6.out⟩
        subst k2
        by_cases m1 : 1000000 ≤ P
        case neg =>
          have n0 : decide (P < 1000000) = true := by simp; omega
          have HN : Hid (dgF zs = -1) := by
            show _ = _
            rw [HDD.out, if_neg]
            simp only [Bool.and_eq_true, decide_eq_true_eq, Bool.true_and]
            omega
          go_wp2
          go_ret
          exact ⟨by rw [HN.out]; rfl, HB6.out⟩
        have n1 : decide (P < 1000000) = false := by simp; omega
        by_cases m2 : 1000000 ≤ Q
        case neg =>
          have n0 : decide (Q < 1000000) = true := by simp; omega
          have HN : Hid (dgF zs = -1) := by
            show _ = _
            rw [HDD.out, if_neg]
            simp only [Bool.and_eq_true, decide_eq_true_eq, Bool.true_and]
            omega
          go_wp2
          go_ret
          exact ⟨by rw [HN.out]; rfl, HB6.out⟩
        have n2 : decide (Q < 1000000) = false := by simp; omega
        by_cases m3 : P ≤ 8 * Q
        case neg =>
          have n0 : decide (8 * Q < P) = true := by simp; omega
          have HN : Hid (dgF zs = -1) := by
            show _ = _
            rw [HDD.out, if_neg]
            simp only [Bool.and_eq_true, decide_eq_true_eq, Bool.true_and]
            omega
          go_wp2
          go_ret
          exact ⟨by rw [HN.out]; rfl, HB6.out⟩
        have n3 : decide (8 * Q < P) = false := by simp; omega
        by_cases m4 : Q ≤ 8 * P
        case neg =>
          have n0 : decide (8 * P < Q) = true := by simp; omega
          have HN : Hid (dgF zs = -1) := by
            show _ = _
            rw [HDD.out, if_neg]
            simp only [Bool.and_eq_true, decide_eq_true_eq, Bool.true_and]
            omega
          go_wp2
          go_ret
          exact ⟨by rw [HN.out]; rfl, HB6.out⟩
        have n4 : decide (8 * P < Q) = false := by simp; omega
        by_cases m5 : 128 * E ≤ 4 * (P + Q)
        case neg =>
          have n0 : decide (4 * (P + Q) < 128 * E) = true := by simp; omega
          have HN : Hid (dgF zs = -1) := by
            show _ = _
            rw [HDD.out, if_neg]
            simp only [Bool.and_eq_true, decide_eq_true_eq, Bool.true_and]
            omega
          go_wp2
          go_ret
          exact ⟨by rw [HN.out]; rfl, HB6.out⟩
        have n5 : decide (4 * (P + Q) < 128 * E) = false := by simp; omega
        have HN : Hid (dgF zs = 4 * (r : Int) + c) := by
          show _ = _
          rw [HDD.out, if_pos]
          simp only [Bool.and_eq_true, decide_eq_true_eq, Bool.true_and]
          exact ⟨⟨⟨⟨m1, m2⟩, m3⟩, m4⟩, m5⟩
        go_wp2
        go_ret
        exact ⟨by rw [HN.out]; rfl, HB6.out⟩
    case pos =>
    have hj4 : (4 : Int) * j ≤ 12 := by omega
    go_wp2_with (fail)
    refine (rowJ_c j hlt wr).mono ?_
    rintro e w9 ⟨rfl, hw⟩
    rw [hw]
    clear hw w9
    obtain ⟨stA, hstA⟩ : ∃ r : Int, (12 + 2 * (j : Int)) = r := ⟨_, rfl⟩
    have HPA : Hid (pw zs stA = rwP zs j) := by show _ = _; rw [← hstA]; rfl
    have hsA : 0 ≤ stA ∧ stA ≤ 255 := by omega
    rw [hstA]
    clear hstA
    go_wp2_with (fail)
    refine (powM_c vt _ zs stA hsA.1 hsA.2 hl' HLV.out wr (HQ2.out.below hGwr.out.b) (HR.out.below (belowCall HB2.out hGwr.out.b HB2.out.size))).mono ?_
    rintro e wA ⟨rfl, bb⟩
    have hGcA : Hid (G2 w2.heap.size w2 v1 v2 b1 b2 (t4 (rwP zs) j) (t4 (clP zs) j) wA) := hGwr.out.call hGwr.out.b.size bb
    rw [HPA.out]
    clear bb
    have HGAA : Hid (G2 w2.heap.size w2 v1 v2 b1 b2 (t4 (rwP zs) j) (t4 (clP zs) j) (wA.alloc (Obj.cells #[.int .i64 (rwP zs j)] 3))) := hGcA.out.call hGcA.out.b.size ((Below.refl _ _).alloc (Nat.le_refl _) _)
    go_wp2_with (at_builtin; refine appK rfl (.tmp 30) (.tmp 37) rfl w2.heap.size _ b1 HGAA.out.e1 (t4 (rwP zs) j) rfl HGAA.out.o1 wA.heap.size (rwP zs j) rfl (by simp) (by rw [t4_len]; omega) HGAA.out.b.size ?_)
    intro v3 w3 b3 q1 q2 q3 q4
    have hGw3 : Hid (G2 w2.heap.size w2 v3 v2 b3 b2 (t4 (rwP zs) (j + 1)) (t4 (clP zs) j) w3) := HGAA.out.app1 HGAA.out.b.size q1 (by simpa using q2) (by rw [t4_succ]; exact q3) q4
    clear q1 q2 q3 q4 HGAA hGcA hGwr
    go_wp2_with (fail)
    refine (colJ_c j hlt w3).mono ?_
    rintro e w9 ⟨rfl, hw⟩
    rw [hw]
    clear hw w9
    obtain ⟨stB, hstB⟩ : ∃ r : Int, (22 + 4 * (j : Int)) = r := ⟨_, rfl⟩
    have HPB : Hid (pw zs stB = clP zs j) := by show _ = _; rw [← hstB]; rfl
    have hsB : 0 ≤ stB ∧ stB ≤ 255 := by omega
    rw [hstB]
    clear hstB
    go_wp2_with (fail)
    refine (powM_c vt _ zs stB hsB.1 hsB.2 hl' HLV.out w3 (HQ2.out.below hGw3.out.b) (HR.out.below (belowCall HB2.out hGw3.out.b HB2.out.size))).mono ?_
    rintro e wB ⟨rfl, bb⟩
    have hGcB : Hid (G2 w2.heap.size w2 v3 v2 b3 b2 (t4 (rwP zs) (j + 1)) (t4 (clP zs) j) wB) := hGw3.out.call hGw3.out.b.size bb
    rw [HPB.out]
    clear bb
    have HGAB : Hid (G2 w2.heap.size w2 v3 v2 b3 b2 (t4 (rwP zs) (j + 1)) (t4 (clP zs) j) (wB.alloc (Obj.cells #[.int .i64 (clP zs j)] 3))) := hGcB.out.call hGcB.out.b.size ((Below.refl _ _).alloc (Nat.le_refl _) _)
    go_wp2_with (at_builtin; refine appK rfl (.tmp 39) (.tmp 45) rfl w2.heap.size _ b2 HGAB.out.e2 (t4 (clP zs) j) rfl HGAB.out.o2 wB.heap.size (clP zs j) rfl (by simp) (by rw [t4_len]; omega) HGAB.out.b.size ?_)
    intro v4 w4 b4 q1 q2 q3 q4
    have hGw4 : Hid (G2 w2.heap.size w2 v3 v4 b3 b4 (t4 (rwP zs) (j + 1)) (t4 (clP zs) (j + 1)) w4) := HGAB.out.app2 HGAB.out.b.size q1 (by simpa using q2) (by rw [t4_succ]; exact q3) q4
    clear q1 q2 q3 q4 HGAB hGcB hGw3
    go_wp2
    go_roundw
    case rel => exact ⟨j + 1, _, _, _, _, by omega, by go_num, rfl, rfl, hGw4.out⟩
    case measure => simp [intOf]; omega

end Go.Proofs.YtgdejlofkjdkoaaDoor
