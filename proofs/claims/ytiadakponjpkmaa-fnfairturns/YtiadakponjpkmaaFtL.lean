/- The law of turns; no condition. -/
import Derived.Test.YtiadakponjpkmaaFrd
import Derived.Test.YtiadakponjpkmaaFrb
import Derived.Test.YtiadakponjpkmaaFrn
import Derived.Test.YtiadakponjpkmaaFtm
import Derived.Test.YtiadakponjpkmaaSmi
import Derived.Test.YtiadakponjpkmaaDra
import Derived.Test.YtiadakponjpkmaaLwb
import Derived.Test.YtiadakponjpkmaaRegB
namespace Go.Proofs.Ytiadakponjpkmaa
open Go.RowKit Go.ChangeShapes Go.WideShapes Go.ChangeAt
set_option linter.unusedVariables false
set_option linter.unusedSimpArgs false
set_option maxRecDepth 8000
theorem faR_len (ls : List (List Int)) (t : Int) : (faR ls t).length ≤ 500 := by
  cases h : faB ls t with
  | false => rw [faR_no h]; simp
  | true =>
    have h' := h
    unfold faB at h'
    rw [Bool.and_eq_true, decide_eq_true_eq] at h'
    rw [faR_yes h, frO_len]
    have := gS_len (N := ls.length) (T := t.toNat) (ln := lnA ls) (ls.length * 60)
    omega
theorem ft_w {c : Nat} (h : c ≤ 60) : wrap64 ((c : Int) + 1) = (c : Int) + 1 := wrap64_in (by omega)
theorem ft_pos {p c : Nat} (h : p ≤ c) : decide ((c : Int) + 1 < (p : Int) + 1) = false ∧ ¬ ((c : Int) + 1 < (p : Int) + 1) ∧ decide ((c : Int) < (p : Int)) = false ∧ decide (c < p) = false := ⟨decide_eq_false (by omega), by omega, decide_eq_false (by omega), decide_eq_false (by omega)⟩
theorem ft_neg {p c Y : Nat} (h : ¬ p ≤ c) (h2 : p ≤ c ∨ Y ≤ c) : decide ((c : Int) + 1 < (p : Int) + 1) = true ∧ decide ((c : Int) < (p : Int)) = true ∧ (c : Int) < (p : Int) ∧ decide ((c : Int) < (Y : Int)) = false ∧ ¬ ((c : Int) < (Y : Int)) ∧ decide (c < p) = true ∧ decide (c < Y) = false := ⟨decide_eq_true (by omega), decide_eq_true (by omega), by omega, decide_eq_false (by omega), by omega, decide_eq_true (by omega), decide_eq_false (by omega)⟩
theorem drewN_setCell (w : World) (n : Nat) (p : Addr) (x : Value) : (w.drewN n).setCell p x = (w.setCell p x).drewN n := by first | rfl | simp [World.setCell] | (unfold World.setCell; simp)

theorem wp_makeI {o : Oper} {a : Act} {w : World} {K : Act → World → Prop} {Q : Exit → Act → World → Prop} (l c : Operand) (hop : o.op = .makeSlice 35 l c) (n : Nat) (hl : a.eval l = .int .i64 n) (hc : a.eval c = .int .i64 n) (hn : n ≤ 1000) (base : Nat) (hb : base ≤ w.heap.size)
    (h : ∀ w', Ow .i64 3 base w' (.slice (some ⟨w.heap.size, 0, none⟩) n n) (List.replicate n 0) → w.grownBy w' none → K (a.put o.dst (.slice (some ⟨w.heap.size, 0, none⟩) n n)) w') : o.wp Try.prog a w K Q := by
  obtain ⟨i0, hi, hz0, hz1, hz2⟩ := info_parts toIInfo
  obtain ⟨w', hrun, r1, r2⟩ := run_make_full (P := Try.prog) w base 35 3 i0 (.int .i64 0) 1 Try.underlying35 hi hz0 hz1 .i64 .i64 n (by rw [hz2]; omega) (by unfold maxLen; omega) hb
  unfold Oper.wp
  simp [execOp, hop, hl, hc, hrun, Result.andThen]
  refine h w' ?_ r2
  rw [Ow]
  have e : madeCells (Value.int .i64 0).cells (n * 1) = madeCells #[Value.int .i64 0] n := by simp [Value.cells]
  rw [e, toList_madeCells_one] at r1
  simpa using r1
theorem wp_len {o : Oper} {a : Act} {w : World} {K : Act → World → Prop} {Q : Exit → Act → World → Prop} (T : TypeId) (x : Operand) (hop : o.op = .call { callee := .builtin .len, args := #[x], argTypes := #[T] }) (ad : Option Addr) (n c : Nat) (hT : Try.prog.underlying T = some (.slice (Try.prog.elem T))) (hx : a.eval x = .slice ad n c)
    (h : K (a.put o.dst (.int .i64 n)) w) : o.wp Try.prog a w K Q := by
  unfold Oper.wp
  simp [execOp, hop, hx, resolve, invoke, builtin, Result.andThen, run_len_slice (h := hT)]
  exact h
theorem wp_buildN {o : Oper} {a : Act} {w : World} {K : Act → World → Prop} {Q : Exit → Act → World → Prop} (hop : o.op = .buildSlice 49 0 #[])
    (h : K (a.put o.dst (.slice (some ⟨w.heap.size, 0, none⟩) 0 0)) (w.alloc (.cells #[] 35))) : o.wp Try.prog a w K Q := by
  refine wp_val (.slice (some ⟨w.heap.size, 0, none⟩) 0 0) (w' := w.alloc (.cells #[] 35)) ?_ h
  obtain ⟨i0, hi, hz0, hz1, hz2⟩ := info_parts toSInfo
  simp [execOp, hop, Instr.buildSlice, run_underlying Try.underlying49, sizeOf, typeInfo, zeroValue, hi, hz0, hz1, Instr.fill, newRow]
  rw [show Array.range 0 = #[] by decide]
  simp
/-- the list of rows and the counts are made, in whatever order -/
def JM (v : Value) (N base : Nat) (w0 : World) (U : Value → Value → Value → Value → Value → Value → Act) (d : Nat → Bool) (A : Act) (W : World) : Prop :=
  ∃ u0 u1 u2 u3 u4 u5 : Value, A = U u0 u1 u2 u3 u4 u5 ∧ w0.grownBy W none ∧ (d 1 = true → u1 = v) ∧ (d 2 = true → u2 = .int .i64 N) ∧
    (d 0 = true → ∃ g, u0 = .slice (some ⟨g, 0, none⟩) 0 0 ∧ w0.heap.size ≤ g ∧ g < W.heap.size ∧ W.ownsRow base 35 1 (.slice (some ⟨g, 0, none⟩) 0 0) 0 [] ∧ (d 3 = true → ∀ g', u3 = .slice (some ⟨g', 0, none⟩) N N → g ≠ g')) ∧
    (d 3 = true → ∃ g, u3 = .slice (some ⟨g, 0, none⟩) N N ∧ w0.heap.size ≤ g ∧ g < W.heap.size ∧ Ow .i64 3 base W (.slice (some ⟨g, 0, none⟩) N N) (List.replicate N 0)) ∧ (d 4 = true → d 0 = true ∧ u4 = u0) ∧ (d 5 = true → d 3 = true ∧ u5 = u3)
theorem own_off {w w' : World} {base : Nat} {e : TypeId} {s n : Nat} {v : Value} {xs : List Value} (h : w.ownsRow base e s v n xs) (hg : w.grownBy w' none) : w'.ownsRow base e s v n xs := World.ownsRow.kept h hg (by cases v.ownBlock <;> simp)
set_option maxHeartbeats 51200000 in
theorem turnsLaw (v : Value) (code : List Int) (w : World) (h : Rd .u8 w v code) (hok : ∀ z ∈ code, (Lit.int .u8 z).wf = true) : Calls Try.prog 6 #[v] w fun e w' => e = .returned (.bool true) ∧ Below w.heap.size w w' := by
  have HR : Hid (Rd .u8 w v code) := h
  have HOK : Hid (∀ z ∈ code, 0 ≤ z ∧ z ≤ 255) := fun z hz => bounds_u8 (hok z hz)
  clear h hok
  go_enter Try.func6, Try.ntmps6
  go_wp2_with (fail)
  refine (big_c v code _ HR.out).mono ?_
  rintro e w0 ⟨rfl, hw⟩
  rw [hw]
  clear hw w0
  by_cases hbig : (1048576 : Int) < (code.length : Int)
  case pos =>
    rw [decide_eq_true hbig]
    clear hbig
    go_wp2
    go_ret
    exact ⟨rfl, Below.refl _ _⟩
  rw [decide_eq_false hbig]
  have HLN : Hid (code.length ≤ 2097152) := by show _ ≤ _; omega
  clear hbig
  go_wp2_with (fail)
  refine (drawFair_c v code _ HR.out HOK.out HLN.out).mono ?_
  rintro e w1 ⟨u, t, ls, rfl, hrn, hls, ht, b1⟩
  have HB1 : Hid (Below w.heap.size w w1) := b1
  have HRN : Hid (Rn w1 u ls) := hrn
  have HLS : Hid (LsB ls) := hls
  clear hls ht b1 HR HOK HLN
  obtain ⟨a, cap, rfl, hc1, hc2, -⟩ := hrn
  obtain ⟨u, hu⟩ : ∃ u, Value.slice a ls.length cap = u := ⟨_, rfl⟩
  obtain ⟨T, hT⟩ : ∃ T, faB ls t = T := ⟨_, rfl⟩
  have HT : Hid (faB ls t = T) := hT
  have HCI : Hid (∀ (x : Value) (W : World), Rn W x ls → Calls Try.prog 27 #[x, .int .i64 t] W fun e w' => ∃ v, e = .returned (.tuple #[v, .bool T]) ∧ Ow .i64 3 W.heap.size w' v (faR ls t) ∧ Below W.heap.size W w') := fun x W hx => by
    have := faI_c x ls t W hx
    unfold FaR at this
    rw [hT] at this; exact this
  have HCM : Hid (∀ (x : Value) (W : World), Rn W x ls → Calls Try.prog 28 #[x, .int .i64 t] W fun e w' => ∃ v, e = .returned (.tuple #[v, .bool T]) ∧ Ow .i64 3 W.heap.size w' v (faR ls t) ∧ Below W.heap.size W w') := fun x W hx => by
    have := faM_c x ls t W hx (by have := HLS.out.1; omega)
    unfold FaR at this
    rw [hT] at this; exact this
  have HCN : Hid (∀ (x : Value) (W : World), Rn W x (nmL ls ls.length) → Calls Try.prog 27 #[x, .int .i64 t] W fun e w' => ∃ v, e = .returned (.tuple #[v, .bool T]) ∧ Ow .i64 3 W.heap.size w' v (faR (nmL ls ls.length) t) ∧ Below W.heap.size W w') := fun x W hx => by
    have := faI_c x (nmL ls ls.length) t W hx
    unfold FaR at this
    rw [nmL_fa, hT] at this; exact this
  clear hT hu hc1 hc2
  go_wp2_with (fail)
  refine (HCI.out _ _ HRN.out).mono ?_
  rintro e w2 ⟨vo, rfl, o2, bb⟩
  have HB2 : Hid (Below w.heap.size w w2) := belowCall HB1.out bb HB1.out.size
  have HR2 : Hid (Rn w2 (.slice a ls.length cap) ls) := HRN.out.below bb
  have HO2 : Hid (Rd .i64 w2 vo (faR ls t)) := o2.rd
  clear o2 bb HB1 HRN HCI
  go_wp2_with (fail)
  refine (HCM.out _ _ HR2.out).mono ?_
  rintro e w3 ⟨vm, rfl, o3, bb⟩
  have HB3 : Hid (Below w.heap.size w w3) := belowCall HB2.out bb HB2.out.size
  have HR3 : Hid (Rn w3 (.slice a ls.length cap) ls) := HR2.out.below bb
  have HO3 : Hid (Rd .i64 w3 vo (faR ls t)) := HO2.out.below bb
  have HM3 : Hid (Rd .i64 w3 vm (faR ls t)) := o3.rd
  clear o3 bb HB2 HR2 HO2 HCM
  have tt : (T != T) = false := by simp
  go_wp2_with (fail)
  refine (sameI vo vm _ _ _ HO3.out HM3.out).mono ?_
  rintro e w4 ⟨rfl, bb⟩
  have HB4 : Hid (Below w.heap.size w w4) := belowCall HB3.out bb HB3.out.size
  have HR4 : Hid (Rn w4 (.slice a ls.length cap) ls) := HR3.out.below bb
  have HO4 : Hid (Rd .i64 w4 vo (faR ls t)) := HO3.out.below bb
  rw [decide_eq_true (Eq.refl (faR ls t))]
  clear bb HB3 HR3 HO3
  obtain ⟨L, hL⟩ : ∃ L, ls.length = L := ⟨_, rfl⟩
  have HL : Hid (ls.length = L) := hL
  have HL9 : Hid (L ≤ 9) := by show _ ≤ _; rw [← hL]; exact HLS.out.1
  rw [hL] at HR4 HCN ⊢
  clear hL
  go_wp2

  have HS4 : Hid (w.heap.size ≤ w4.heap.size) := HB4.out.size
  refine region_invB (by kernel_rfl) (by kernel_rfl) (JM (.slice a L cap) L w4.heap.size w4.drew (fun u0 u1 u2 u3 u4 u5 => ⟨#[v, undef, .bool false, .slice a L cap, .int .i64 t, vo, .bool T, vm, .bool T, u4, u5, undef, undef, undef, undef, undef, undef, undef, undef, undef, undef, v, .bool false, .tuple #[.slice a L cap, .int .i64 t], v, .tuple #[.slice a L cap, .int .i64 t], .slice a L cap, .int .i64 t, .tuple #[vo, .bool T], .slice a L cap, .int .i64 t, .tuple #[vo, .bool T], vo, .bool T, .tuple #[vm, .bool T], .slice a L cap, .int .i64 t, .tuple #[vm, .bool T], vm, .bool T, .bool T, .bool T, .bool false, .bool false, vo, vm, .bool true, .bool false, .bool false, u0, u1, u2, u3, undef, undef, undef, undef, undef, undef, undef, undef, undef, undef, undef, undef, undef, undef, undef, undef, undef, undef, undef, undef, undef, undef, undef, undef, undef, undef, undef, undef, undef, undef, undef, undef, undef, undef, undef, undef, undef, undef, undef, undef, undef, undef, undef, undef, undef, undef, undef, undef, undef, undef, undef, undef, undef, undef, undef, undef, undef, undef, undef, undef, undef, undef, undef, undef, undef, undef, undef, undef, undef, undef, undef, undef, undef, undef, undef, undef, undef, undef, undef, undef, undef, undef, undef, undef, undef, undef, undef, undef, undef, undef, undef, undef, undef, undef, undef, undef, undef, undef, undef, undef, undef, undef, undef, undef, undef, undef, undef, undef, undef, undef, undef, undef, undef, undef, undef, undef, undef, undef, undef, undef, undef, undef, undef, undef, undef, undef, undef, undef, undef, undef, undef, undef, undef, undef], []⟩)) ⟨_, _, _, _, _, _, rfl, grown_refl _ _, by simp, by simp, by simp, by simp, by simp, by simp⟩ ⟨?_, ?_, ?_, ?_, ?_, ?_, trivial⟩ ?_
  · rintro d A W ⟨x0, x1, x2, x3, x4, x5, rfl, I, e1, e2, e0, e3, e4, e5⟩ hn hd
    have hw0 : w4.heap.size ≤ W.heap.size := I.size
    refine wp_buildN rfl ?_
    refine ⟨_, x1, x2, x3, x4, x5, rfl, grown_trans I (World.grownBy_alloc W _ none), e1, e2, fun _ => ⟨W.heap.size, rfl, hw0, by simp, World.ownsRow_lit W #[] 0 hw0 (by simp) (by simp), fun h3 g' e => ?_⟩, fun h3 => ?_, fun h4 => ?_, e5⟩
    · obtain ⟨g, r1, r2, r3, r4⟩ := e3 h3
      rw [r1] at e; cases e
      exact Nat.ne_of_gt r3
    · obtain ⟨g, r1, r2, r3, r4⟩ := e3 h3
      exact ⟨g, r1, r2, by simp; omega, r4.alloc _⟩
    · have := (e4 h4).1
      rw [hn] at this; cases this
  · rintro d A W ⟨x0, x1, x2, x3, x4, x5, rfl, I, e1, e2, e0, e3, e4, e5⟩ hn hd
    exact wp_val _ rfl ⟨x0, _, x2, x3, x4, x5, rfl, I, fun _ => rfl, e2, e0, e3, e4, e5⟩
  · rintro d A W ⟨x0, x1, x2, x3, x4, x5, rfl, I, e1, e2, e0, e3, e4, e5⟩ hn hd
    obtain rfl := e1 (hd ⟨1, .data⟩ (by simp) rfl)
    refine wp_len _ _ rfl _ _ _ (by kernel_rfl) rfl ?_
    exact ⟨x0, _, _, x3, x4, x5, rfl, I, e1, fun _ => rfl, e0, e3, e4, e5⟩
  · rintro d A W ⟨x0, x1, x2, x3, x4, x5, rfl, I, e1, e2, e0, e3, e4, e5⟩ hn hd
    obtain rfl := e2 (hd ⟨2, .data⟩ (by simp) rfl)
    have hw0 : w4.heap.size ≤ W.heap.size := I.size
    refine wp_makeI _ _ rfl L rfl rfl (by have := HL9.out; omega) w4.heap.size hw0 fun w' ho hg => ?_
    refine ⟨x0, x1, _, _, x4, x5, rfl, grown_trans I hg, e1, e2, fun h1 => ?_, fun _ => ⟨_, rfl, hw0, (World.ownsRow.lt ho _ rfl).2, ho⟩, e4, fun h5 => ?_⟩
    · obtain ⟨g, r1, r2, r3, r4, -⟩ := e0 h1
      exact ⟨g, r1, r2, Nat.lt_of_lt_of_le r3 hg.size, own_off r4 hg, fun _ g' e => by cases e; exact Nat.ne_of_lt r3⟩
    · have := (e5 h5).1
      rw [hn] at this; cases this
  · rintro d A W ⟨x0, x1, x2, x3, x4, x5, rfl, I, e1, e2, e0, e3, e4, e5⟩ hn hd
    exact wp_val _ rfl ⟨x0, x1, x2, x3, _, x5, rfl, I, e1, e2, e0, e3, fun _ => ⟨hd ⟨0, .data⟩ (by simp) rfl, rfl⟩, e5⟩
  · rintro d A W ⟨x0, x1, x2, x3, x4, x5, rfl, I, e1, e2, e0, e3, e4, e5⟩ hn hd
    exact wp_val _ rfl ⟨x0, x1, x2, x3, x4, _, rfl, I, e1, e2, e0, e3, e4, fun _ => ⟨hd ⟨3, .data⟩ (by simp) rfl, rfl⟩⟩
  rintro d A W ⟨x0, x1, x2, x3, x4, x5, rfl, I, e1, e2, e0, e3, e4, e5⟩ hd
  obtain rfl := e1 (hd 1 (by decide))
  obtain rfl := e2 (hd 2 (by decide))
  obtain ⟨-, rfl⟩ := e4 (hd 4 (by decide))
  obtain ⟨-, rfl⟩ := e5 (hd 5 (by decide))
  obtain ⟨g1, rfl, l1, m1, o1, hne⟩ := e0 (hd 0 (by decide))
  obtain ⟨gC, rfl, l2, m2, o2⟩ := e3 (hd 3 (by decide))
  have hne := hne (hd 3 (by decide)) gC rfl
  have I' : w4.grownBy W none := ⟨I.os, I.tape, I.output, I.size, I.block⟩
  have bI : Below w4.heap.size w4 W := grown_below I' (Nat.le_refl _) (by simp)
  have HGE : Hid (Ge w4 W (.slice (some ⟨g1, 0, none⟩) 0 0) [] []) := ⟨rfl, o1, fun i hi => by simp at hi, fun i hi => by simp at hi, fun i j _ hj => by simp at hj, bI⟩
  have HCT : Hid (Ow .i64 3 w4.heap.size W (.slice (some ⟨gC, 0, none⟩) L L) (List.replicate L 0)) := o2
  have HNE : Hid (∀ k, (Value.slice (some ⟨g1, 0, none⟩) 0 0).ownBlock = some k → k ≠ gC) := fun k e => by simp [Value.ownBlock] at e; omega
  have HGC : Hid (w4.heap.size ≤ gC ∧ gC < W.heap.size) := ⟨l2, m2⟩
  clear hd e0 e1 e2 e3 e4 e5 I I' bI o1 o2 l1 l2 m1 m2 hne
  dsimp only
  obtain ⟨v9, hv9⟩ : ∃ x, Value.slice (some ⟨g1, 0, none⟩) 0 0 = x := ⟨_, rfl⟩
  rw [hv9] at HGE HNE ⊢
  clear hv9
  go_wp2
  have HN0 : Hid (nmL ls 0 = []) := rfl
  have HC0 : Hid (∀ W j, j < ls.length → Below w4.heap.size w4 W → ∃ (bo : Nat × Nat) (u : Value), a = some ⟨bo.1, bo.2, none⟩ ∧ bo.1 < w4.heap.size ∧ W.cell? ⟨bo.1, bo.2 + j, none⟩ = some u ∧ Rd .i64 w4 u (ls.getD j [])) := rnc HR4.out
  go_loopw [9, 11] (fun o i wr => ∃ (j : Nat) (o' : Value) (us : List Value), i = .int .i64 j ∧ o' = o ∧ j ≤ L ∧ Hid (Ge w4 wr o' us (nmL ls j)) ∧ Hid (∀ k, o'.ownBlock = some k → k ≠ gC) ∧ Hid (Ow .i64 3 w4.heap.size wr (.slice (some ⟨gC, 0, none⟩) L L) (List.replicate L 0)) ∧ Hid (gC < wr.heap.size)) (fun _ i _ => L - (intOf i).toNat)
  case atStart => exact ⟨0, _, [], rfl, rfl, Nat.zero_le _, by rw [HN0.out]; exact HGE.out, HNE.out, HCT.out, HGC.out.2⟩
  case round =>
    obtain ⟨j, o', us, rfl, ho', hj, hG, hNE, hCT, hF⟩ := hrel
    subst ho'
    clear HGE HNE HCT HN0
    by_cases hlt : j < L
    case pos =>
      obtain ⟨⟨b, off⟩, u0, rfl, hbl, hc0, hr0⟩ := HC0.out wr j (by rw [HL.out]; exact hlt) hG.out.bl
      dsimp only at hc0 hbl
      obtain ⟨xa, xc, rfl, hr1, hr2, -⟩ := hr0
      unfold maxLen at hr2
      have HXL : Hid ((ls.getD j []).length ≤ 61) := HLS.out.2 j (by rw [HL.out]; exact hlt)
      have HLA : Hid (lnA ls j = (ls.getD j []).length) := rfl
      obtain ⟨X, hX⟩ : ∃ X, (ls.getD j []).length = X := ⟨_, rfl⟩
      rw [hX] at hc0 hr1 HXL HLA
      have hltI : (j : Int) < (L : Int) := by omega
      have hi0 : (0 : Int) ≤ (j : Int) := by omega
      have hX61 := HXL.out
      have hL9 := HL9.out
      clear hX
      obtain ⟨wz, hwz⟩ : ∃ W, W = wr := ⟨_, rfl⟩
      subst hwz
      obtain ⟨W1, hW1⟩ : ∃ W, wz.alloc (Obj.cells #[] 3) = W := ⟨_, rfl⟩
      obtain ⟨v1, hv1⟩ : ∃ v, Value.slice (some ⟨wz.heap.size, 0, none⟩) 0 0 = v := ⟨_, rfl⟩
      have HO1 : Hid (Ow .i64 3 wz.heap.size W1 v1 (List.replicate 0 (j : Int))) := by rw [← hW1, ← hv1]; exact Ow.empty .i64 3 _ wz (Nat.le_refl _)
      have HC1 : Hid (Below wz.heap.size wz W1) := by rw [← hW1]; exact (Below.refl _ _).alloc (Nat.le_refl _) _
      have HW1 : Hid (wz.alloc (Obj.cells #[] 3) = W1 ∧ Value.slice (some ⟨wz.heap.size, 0, none⟩) 0 0 = v1) := ⟨hW1, hv1⟩
      have HCX : Hid (wz.cell? ⟨b, off + j, none⟩ = some (.slice xa X xc) ∧ b < wz.heap.size) := ⟨hc0, block_lt_of_cell hc0⟩
      clear hW1 hv1 hc0 hbl
      go_wp2
      rw [HW1.out.1, HW1.out.2]
      clear HW1
      go_loopw [12, 13] (fun o i wr => ∃ (k : Nat) (q' : Value), i = .int .i64 k ∧ q' = o ∧ k ≤ X ∧ Hid (Ow .i64 3 wz.heap.size wr q' (List.replicate k (j : Int))) ∧ Hid (Below wz.heap.size wz wr)) (fun _ i _ => X - (intOf i).toNat)
      case atStart => exact ⟨0, _, rfl, rfl, Nat.zero_le _, HO1.out, HC1.out⟩
      case round =>
        obtain ⟨k, q', rfl, hq', hk, hO, hC⟩ := hrel
        subst hq'
        clear HO1 HC1
        have hc0 : wr.cell? ⟨b, off + j, none⟩ = some (.slice xa X xc) := (hC.out.cell (p := ⟨b, off + j, none⟩) HCX.out.2).trans HCX.out.1
        by_cases hkt : k < X
        case pos =>
          have hktI : (k : Int) < (X : Int) := by omega
          have HSZ : Hid (wz.heap.size ≤ wr.heap.size) := hC.out.size
          go_wp2_with (at_builtin; refine appI rfl (.tmp 69) (.tmp 71) rfl wz.heap.size _ (List.replicate k (j : Int)) rfl (hO.out.alloc _) wr.heap.size (j : Int) rfl (by simp) (by simp; omega) (by have := HSZ.out; simp; omega) ?_)
          intro v6 w6 ho hb
          have HO6 : Hid (Ow .i64 3 wz.heap.size w6 v6 (List.replicate (k + 1) (j : Int))) := by show Ow _ _ _ _ _ _; rw [List.replicate_succ']; exact ho
          have HC6 : Hid (Below wz.heap.size wz w6) := (hC.out.alloc HSZ.out _).trans hb
          clear ho hb hO hC
          go_wp2
          go_roundw
          case rel => exact ⟨k + 1, _, by go_num, rfl, by omega, HO6.out, HC6.out⟩
          case measure => simp [intOf]; omega
        case neg =>
        obtain rfl : k = X := by omega
        clear hkt hk
        obtain ⟨ad, cc, hvq, -⟩ := own_form hO.out
        have HG2 : Hid (Ge w4 wr o' us (nmL ls j)) := hG.out.below hC.out
        have HBL := hG.out.blt
        have HUL : Hid (us.length ≤ 1000) := by show _ ≤ _; rw [hG.out.len, nmL_len]; have := HL9.out; omega
        have HSZ : Hid (w4.heap.size ≤ wr.heap.size) := HG2.out.size
        have HSW : Hid (w4.heap.size ≤ wz.heap.size) := hG.out.size
        have HC2 : Hid (Ow .i64 3 w4.heap.size wr (.slice (some ⟨gC, 0, none⟩) L L) (List.replicate L 0)) := hCT.out.below hC.out
        have HF2 : Hid (gC < wr.heap.size) := Nat.lt_of_lt_of_le hF.out hC.out.size
        have HNM : Hid (nmL ls (j + 1) = nmL ls j ++ [List.replicate k (j : Int)]) := by show _ = _; rw [nmL_succ, HLA.out]
        have HPU : Hid (∀ v' w', w'.ownsRow w4.heap.size 35 1 v' (us ++ [q']).length (us ++ [q']) → (wr.alloc (Obj.cells #[q'] 35)).grownBy w' o'.ownBlock → (v'.ownBlock = o'.ownBlock ∨ v'.ownBlock = some (wr.alloc (Obj.cells #[q'] 35)).heap.size) → Ge w4 w' v' (us ++ [q']) (nmL ls (j + 1))) := fun v' w' h1 h2 h3 => by rw [HNM.out]; exact HG2.out.push HSW.out HBL.1 HBL.2 hO.out ((Below.refl _ _).alloc (Nat.le_refl _) _) h1 h2 h3
        have HRW : Hid ((wr.alloc (Obj.cells #[q'] 35)).ownsRow w4.heap.size 35 1 o' us.length us) := World.ownsRow.alloc HG2.out.row _
        have HBV : Hid (∀ k, o'.ownBlock = some k → k ≠ gC) := hNE
        rw [hvq] at HPU HRW ⊢
        rw [List.length_replicate] at HPU HRW ⊢
        clear hvq HBL hO hC hG HG2 hNE
        go_wp2_with (at_builtin; refine appRow rfl (.tmp 73) (.tmp 75) rfl w4.heap.size _ us rfl HRW.out wr.heap.size ad k cc rfl (by simp) (by have := HUL.out; omega) (by have := HSZ.out; simp; omega) ?_)
        intro v6 w6 h1 h2 h3
        have HG6 : Hid (Ge w4 w6 v6 (us ++ [.slice ad k cc]) (nmL ls (j + 1))) := HPU.out v6 w6 (by simpa using h1) h2 (by simpa using h3)
        have HN6 : Hid (∀ k, v6.ownBlock = some k → k ≠ gC) := fun k e => by
          rcases h3 with h | h
          · exact HBV.out k (h.symm.trans e)
          · rw [h] at e; cases e
            have := HF2.out
            simp; omega
        have HC6 : Hid (Ow .i64 3 w4.heap.size w6 (.slice (some ⟨gC, 0, none⟩) L L) (List.replicate L 0)) := World.ownsRow.kept (HC2.out.alloc _) h2 (.inr fun e => HBV.out gC e.symm rfl)
        have HF6 : Hid (gC < w6.heap.size) := Nat.lt_of_lt_of_le HF2.out (Nat.le_trans (by simp) h2.size)
        clear h1 h2 h3 HPU HRW
        go_wp2
        go_roundw
        case rel => exact ⟨j + 1, _, _, by go_num, rfl, by omega, HG6.out, HN6.out, HC6.out, HF6.out⟩
        case measure => simp [intOf]; omega
    case neg =>
    obtain rfl : j = L := by omega
    clear hlt hj
    have HRD : Hid (Rn wr o' (nmL ls j)) := hG.out.rd
    have HB5 : Hid (Below w4.heap.size w4 wr) := hG.out.bl
    clear hG hNE
    go_wp2_with (fail)
    refine (HCN.out _ _ HRD.out).mono ?_
    rintro e w5 ⟨vw, rfl, o5, bb⟩
    have HB6 : Hid (Below w4.heap.size w4 w5) := belowCall HB5.out bb HB5.out.size
    have HC6 : Hid (Ow .i64 3 w4.heap.size w5 (.slice (some ⟨gC, 0, none⟩) j j) (List.replicate j 0)) := hCT.out.below bb
    have HW6 : Hid (Rd .i64 w5 vw (faR (nmL ls j) t)) := o5.rd
    have HWB : Hid (vw.ownBlock = none ∨ vw.ownBlock ≠ some gC) := by
      cases hv : vw.ownBlock with
      | none => exact .inl rfl
      | some k => exact .inr fun e => by cases e; have := (World.ownsRow.lt o5 gC hv).1; have := hF.out; omega
    have HNN : Hid ((faR (nmL ls j) t).length = (faR ls t).length) := by show _ = _; rw [← HL.out]; exact nm_len ls t
    obtain ⟨wa, wc, rfl, hv1, hv2, -⟩ := id HW6.out
    obtain ⟨oa, oc, rfl, hv3, hv4, -⟩ := id HO4.out
    unfold maxLen at hv2 hv4
    have HNB : Hid ((faR ls t).length ≤ 500) := faR_len ls t
    obtain ⟨n, hn⟩ : ∃ n, (faR ls t).length = n := ⟨_, rfl⟩
    have HN : Hid ((faR ls t).length = n) := hn
    have HNW : Hid ((faR (nmL ls j) t).length = n) := by show _ = _; rw [HNN.out, hn]
    rw [HNW.out] at HW6 HWB hv1 ⊢
    rw [hn] at HO4 hv3 HNB ⊢
    clear o5 bb hCT HRD HB5 hn HNN HCN
    have hnn : ((n : Int) != (n : Int)) = false := by simp
    have HA0 : Hid (atL ls 0 = List.replicate j 0) := by show _ = _; rw [atL_zero, HL.out]
    have HAL : Hid (∀ t, (atL ls t).length = j) := fun t => by rw [atL_len, HL.out]
    have HS5 : Hid (w4.heap.size ≤ w5.heap.size) := HB6.out.size
    go_wp2
    go_loopw [16] (fun i wr => ∃ (k u : Nat), i = .int .i64 k ∧ k ≤ n ∧ Hid ((gS ls.length t.toNat (lnA ls) u).length = k ∧ u ≤ ls.length * 60) ∧ Hid (Ow .i64 3 w4.heap.size wr (.slice (some ⟨gC, 0, none⟩) j j) (atL ls u)) ∧ Hid (w5.grownBy wr (some gC))) (fun i _ => n - (intOf i).toNat)
    case atStart => exact ⟨0, 0, rfl, Nat.zero_le _, ⟨rfl, Nat.zero_le _⟩, by rw [HA0.out]; exact HC6.out, grown_refl _ _⟩
    case round =>
      obtain ⟨k, u, rfl, hk, hU, hCT, hGR⟩ := hrel
      clear HC6 HA0
      have HBR : Hid (Below w4.heap.size w4 wr) := HB6.out.trans (grown_below hGR.out HS5.out (fun k e => by cases e; exact HGC.out.1))
      by_cases hkn : k < n
      case neg =>
        obtain rfl : k = n := by omega
        clear hkn hk
        have HBE : Hid (Below w.heap.size w wr) := HB4.out.trans (HBR.out.mono HS4.out)
        clear HBR hCT hGR hU
        obtain ⟨y, hy⟩ : ∃ y, wr.heap.size = y := ⟨_, rfl⟩
        obtain ⟨V, hV⟩ : ∃ V, ((wr.alloc (.cells #[.int .i64 1, .int .i64 2] 3)).alloc (.cells #[.int .i64 3] 3)).alloc (.cells #[.slice (some ⟨wr.heap.size, 0, none⟩) 2 2, .slice (some ⟨wr.heap.size + 1, 0, none⟩) 1 1] 35) = V := ⟨_, rfl⟩
        have HRS : Hid (Rn V (.slice (some ⟨wr.heap.size + 2, 0, none⟩) 2 2) [[1, 2], [3]]) := by
          show Rn _ _ _
          have k1 : Blk V wr.heap.size #[.int .i64 1, .int .i64 2] 3 := by rw [← hV]; exact ((Blk.new _ _ _).alloc _).alloc _
          have k2 : Blk V (wr.heap.size + 1) #[.int .i64 3] 3 := by rw [← hV]; exact (Blk.newAt _ _ _ _ (by simp)).alloc _
          have k3 : Blk V (wr.heap.size + 2) #[.slice (some ⟨wr.heap.size, 0, none⟩) 2 2, .slice (some ⟨wr.heap.size + 1, 0, none⟩) 1 1] 35 := by rw [← hV]; exact Blk.newAt _ _ _ _ (by simp)
          refine ⟨_, 2, rfl, by decide, by decide, .inr ⟨wr.heap.size + 2, 0, rfl, fun i hi => ?_⟩⟩
          match i, hi with
          | 0, _ =>
            refine ⟨.slice (some ⟨wr.heap.size, 0, none⟩) 2 2, by have := k3.cell 0; simpa using this, _, 2, rfl, by decide, by decide, .inr ⟨wr.heap.size, 0, rfl, fun i hi => ?_⟩⟩
            match i, hi with
            | 0, _ => have := k1.cell 0; simpa using this
            | 1, _ => have := k1.cell 1; simpa using this
            | i + 2, hi => simp at hi; omega
          | 1, _ =>
            refine ⟨.slice (some ⟨wr.heap.size + 1, 0, none⟩) 1 1, by have := k3.cell 1; simpa using this, _, 1, rfl, by decide, by decide, .inr ⟨wr.heap.size + 1, 0, rfl, fun i hi => ?_⟩⟩
            match i, hi with
            | 0, _ => have := k2.cell 0; simpa using this
            | i + 1, hi => simp at hi
          | i + 2, hi => simp at hi; omega
        have HBV : Hid (Below w.heap.size w V) := by rw [← hV]; exact ((HBE.out.alloc HBE.out.size _).alloc (by have := HBE.out.size; simp; omega) _).alloc (by have := HBE.out.size; simp; omega) _
        have HCS : Hid (∀ W, Rn W (.slice (some ⟨wr.heap.size + 2, 0, none⟩) 2 2) [[1, 2], [3]] → Calls Try.prog 27 #[.slice (some ⟨wr.heap.size + 2, 0, none⟩) 2 2, .int .i64 3] W fun e w' => ∃ v, e = .returned (.tuple #[v, .bool true]) ∧ Ow .i64 3 W.heap.size w' v [1, 3, 2] ∧ Below W.heap.size W w') := fun W hW => by
          have := faI_c _ [[1, 2], [3]] 3 W hW
          unfold FaR at this
          rw [show faB [[1, 2], [3]] 3 = true by decide, show faR [[1, 2], [3]] 3 = [1, 3, 2] by decide] at this
          exact this
        have HV : Hid (((wr.alloc (.cells #[.int .i64 1, .int .i64 2] 3)).alloc (.cells #[.int .i64 3] 3)).alloc (.cells #[.slice (some ⟨wr.heap.size, 0, none⟩) 2 2, .slice (some ⟨wr.heap.size + 1, 0, none⟩) 1 1] 35) = V) := hV
        clear hV hy
        go_wp2_with (fail)
        rw [HV.out]
        refine (HCS.out _ HRS.out).mono ?_
        rintro e w7 ⟨vs, rfl, o7, bb⟩
        have HB7 : Hid (Below w.heap.size w w7) := belowCall HBV.out bb HBV.out.size
        have HS7 : Hid (Rd .i64 (w7.alloc (.cells #[.int .i64 1, .int .i64 3, .int .i64 2] 3)) vs [1, 3, 2]) := o7.rd.below ((Below.refl _ _).alloc (Nat.le_refl _) _)
        have HL7 : Hid (Rd .i64 (w7.alloc (.cells #[.int .i64 1, .int .i64 3, .int .i64 2] 3)) (.slice (some ⟨w7.heap.size, 0, none⟩) 3 3) [1, 3, 2]) := Rd.lit w7 [1, 3, 2] (by decide)
        have HB8 : Hid (Below w.heap.size w (w7.alloc (.cells #[.int .i64 1, .int .i64 3, .int .i64 2] 3))) := HB7.out.alloc HB7.out.size _
        clear o7 bb HB7 HCS HRS HV HBV
        go_wp2_with (fail)
        refine (sameI vs _ _ _ _ HS7.out HL7.out).mono ?_
        rintro e w8 ⟨rfl, bb⟩
        have HB9 : Hid (Below w.heap.size w w8) := belowCall HB8.out bb HB8.out.size
        rw [decide_eq_true (Eq.refl ([1, 3, 2] : List Int))]
        clear bb HB8 HS7 HL7
        go_wp2
        go_ret
        exact ⟨rfl, HB9.out⟩
      case pos =>
      have HTT : Hid (faB ls t = true) := by
        cases hb : faB ls t with
        | true => rfl
        | false => rw [← HN.out, faR_no hb] at hkn; simp at hkn
      obtain ⟨q, p, s, hql, hwq, hpl, hatq, hval, hset, hs60, hlen1, hp60, hoth⟩ := fair_at HTT.out hU.out.1 hU.out.2 (i := k) (by rw [HN.out]; exact hkn)
      rw [HL.out] at hwq
      have hqL : q < j := by rw [← HL.out]; exact hql
      have HWR : Hid (Rd .i64 wr (.slice wa n wc) (faR (nmL ls j) t)) := HW6.out.grownE hGR.out (.inr HWB.out)
      have HOR : Hid (Rd .i64 wr (.slice oa n oc) (faR ls t)) := HO4.out.below HBR.out
      obtain ⟨⟨b1, f1⟩, hwa, -, hcw⟩ := rdc HWR.out wr k (by rw [HNW.out]; exact hkn) (Below.refl _ _)
      obtain ⟨⟨b2, f2⟩, hoa, -, hco⟩ := rdc HOR.out wr k (by rw [HN.out]; exact hkn) (Below.refl _ _)
      obtain ⟨⟨b3, f3⟩, u3, ha3, -, hcq, hrq⟩ := HC0.out wr q hql HBR.out
      obtain ⟨xa, xc, rfl, hx1, hx2, -⟩ := id hrq
      obtain ⟨⟨b4, f4⟩, hxa, -, hcv⟩ := rdc hrq wr p hpl HBR.out
      subst hwa hoa ha3 hxa
      dsimp only at hcw hco hcq hcv
      rw [hwq] at hcw
      rw [hval] at hcv
      have hrow : wr.ownsRow w4.heap.size 3 1 (.slice (some ⟨gC, 0, none⟩) j j) j ((atL ls u).map (Value.int .i64)) := by have := hCT.out; rw [Ow, HAL.out u] at this; exact this
      have hcc : wr.cell? ⟨gC, q, none⟩ = some (.int .i64 (p : Int)) := by
        rw [hrow.cellAt q (by omega), List.getElem?_map, List.getElem?_eq_getElem (by rw [HAL.out u]; exact hqL)]
        rw [List.getD_eq_getElem?_getD, List.getElem?_eq_getElem (by rw [HAL.out u]; exact hqL)] at hatq
        simp at hatq
        simp [hatq]
      have hfz : wr.frozen? ⟨gC, q, none⟩ = false := hrow.frozenAt q
      have HST := hrow.stored q (.int .i64 ((p : Int) + 1))
      have HCS : Hid (Ow .i64 3 w4.heap.size (wr.setCell ⟨gC, q, none⟩ (.int .i64 ((p : Int) + 1))) (.slice (some ⟨gC, 0, none⟩) j j) (atL ls (s + 1))) := by
        show Ow _ _ _ _ _ _
        rw [hset, Ow, List.map_set, List.length_set, HAL.out u]; exact HST.1
      have HGS : Hid (w5.grownBy (wr.setCell ⟨gC, q, none⟩ (.int .i64 ((p : Int) + 1))) (some gC)) := grown_trans hGR.out HST.2
      have HBS : Hid (Below w4.heap.size w4 (wr.setCell ⟨gC, q, none⟩ (.int .i64 ((p : Int) + 1)))) := HBR.out.setCell HGC.out.1 _
      have HOT : Hid (∀ o, o < ls.length → ∃ c : Nat, (atL ls (s + 1)).getD o 0 = (c : Int) ∧ c ≤ 60 ∧ (p ≤ c ∨ (ls.getD o []).length ≤ c)) := hoth
      have HU1 : Hid ((gS ls.length t.toNat (lnA ls) (s + 1)).length = k + 1 ∧ s + 1 ≤ ls.length * 60) := ⟨hlen1, hs60⟩
      have HQP : Hid ((atL ls (s + 1)).getD q 0 = (p : Int) + 1) := by show _ = _; rw [hset]; simp [HAL.out u, hqL]
      have HPB : Hid (p ≤ 60 ∧ p < (ls.getD q []).length) := ⟨hp60, hpl⟩
      obtain ⟨z, hz⟩ : ∃ z, (faR ls t).getD k 0 = z := ⟨_, rfl⟩
      rw [hz] at hcv hco
      obtain ⟨X, hX⟩ : ∃ X, (ls.getD q []).length = X := ⟨_, rfl⟩
      rw [hX] at hcq hx1 hpl
      unfold maxLen at hx2
      have hq0 : (0 : Int) ≤ (q : Int) := by omega
      have hq1 : (q : Int) < (j : Int) := by omega
      have hk0 : (0 : Int) ≤ (k : Int) := by omega
      have hk1 : (k : Int) < (n : Int) := by omega
      have hpp0 : (0 : Int) ≤ (p : Int) := by omega
      have hpp1 : (p : Int) < (X : Int) := by omega
      have dd1 : decide ((q : Int) < 0) = false := decide_eq_false (by omega)
      have dd2 : decide ((j : Int) ≤ (q : Int)) = false := decide_eq_false (by omega)
      have dd3 : decide ((X : Int) ≤ (p : Int)) = false := decide_eq_false (by omega)
      have dd4 : (z != z) = false := by simp
      have dd5 : decide (j ≤ q) = false := decide_eq_false (by omega)
      have dd6 : decide (X ≤ p) = false := decide_eq_false (by omega)
      have hwp : wrap64 ((p : Int) + 1) = (p : Int) + 1 := wrap64_in (by omega)
      clear hwq hatq hval hset hs60 hlen1 hoth hrow HST hz hX hCT hGR hU HWR HOR hp60 hrq
      go_wp2
      go_quiet (fail)
      try simp only [dd5, dd6, Bool.or_self, Bool.or_false]
      have b9 : Below wr.heap.size wr (wr.drewN nq) := below_drewN (Below.refl _ _) _
      have hccD : (wr.drewN nq).cell? ⟨gC, q, none⟩ = some (.int .i64 (p : Int)) := hcc
      have hfzD : (wr.drewN nq).frozen? ⟨gC, q, none⟩ = false := hfz
      obtain ⟨wd, hwd⟩ : ∃ W, wr.drewN nq = W := ⟨_, rfl⟩
      have HDS : Hid (∀ x, Below (wr.setCell ⟨gC, q, none⟩ x).heap.size (wr.setCell ⟨gC, q, none⟩ x) (wd.setCell ⟨gC, q, none⟩ x)) := fun x => by rw [← hwd, drewN_setCell]; exact below_drewN (Below.refl _ _) _
      rw [hwd] at hccD hfzD ⊢
      clear hcc hfz hcw hco hcq hcv hwd b9
      have HCS' : Hid (Ow .i64 3 w4.heap.size (wd.setCell ⟨gC, q, none⟩ (.int .i64 ((p : Int) + 1))) (.slice (some ⟨gC, 0, none⟩) j j) (atL ls (s + 1))) := HCS.out.below (HDS.out _)
      have HGS' : Hid (w5.grownBy (wd.setCell ⟨gC, q, none⟩ (.int .i64 ((p : Int) + 1))) (some gC)) := grown_trans HGS.out ⟨(HDS.out _).os, (HDS.out _).tape, (HDS.out _).output, (HDS.out _).size, fun i hi _ => (HDS.out _).block i hi⟩
      have HBS' : Hid (Below w4.heap.size w4 (wd.setCell ⟨gC, q, none⟩ (.int .i64 ((p : Int) + 1)))) := belowCall HBS.out (HDS.out _) HBS.out.size
      clear HCS HGS HBS HDS
      go_wp2
      obtain ⟨we, hwe⟩ : ∃ W, wd.setCell ⟨gC, q, none⟩ (.int .i64 ((p : Int) + 1)) = W := ⟨_, rfl⟩
      rw [hwe] at HCS' HGS' HBS' ⊢
      clear hwe hccD hfzD dd1 dd2 dd3 dd4 dd5 dd6 hwp
      go_loopw [18] (fun i wr => ∃ (o : Nat), i = .int .i64 o ∧ o ≤ j ∧ Hid (Ow .i64 3 w4.heap.size wr (.slice (some ⟨gC, 0, none⟩) j j) (atL ls (s + 1))) ∧ Hid (w5.grownBy wr (some gC)) ∧ Hid (Below w4.heap.size w4 wr)) (fun i _ => j - (intOf i).toNat)
      case atStart => exact ⟨0, rfl, Nat.zero_le _, HCS'.out, HGS'.out, HBS'.out⟩
      case round =>
        obtain ⟨o, rfl, ho, hCT, hGR, hBR⟩ := hrel
        clear HCS' HGS' HBS'
        by_cases hol : o < j
        case neg =>
          obtain rfl : o = j := by omega
          clear hol ho
          go_wp2
          go_roundw
          case rel => exact ⟨k + 1, s + 1, by go_num, by omega, HU1.out, hCT.out, hGR.out⟩
          case measure => simp [intOf]; omega
        case pos =>
        have hj9 := HL9.out
        obtain ⟨c, hc1, hc2, hc3⟩ := HOT.out o (by rw [HL.out]; exact hol)
        obtain ⟨⟨b5, f5⟩, u5, ha5, -, hcq, hrq⟩ := HC0.out wr o (by rw [HL.out]; exact hol) hBR.out
        obtain ⟨ya, yc, rfl, hy1, hy2, -⟩ := id hrq
        cases ha5
        dsimp only at hcq
        have hrow : wr.ownsRow w4.heap.size 3 1 (.slice (some ⟨gC, 0, none⟩) j j) j ((atL ls (s + 1)).map (Value.int .i64)) := by have := hCT.out; rw [Ow, HAL.out (s + 1)] at this; exact this
        have hgt : ∀ i, i < j → wr.cell? ⟨gC, i, none⟩ = some (.int .i64 ((atL ls (s + 1)).getD i 0)) := fun i hi => by
          rw [hrow.cellAt i (by omega), List.getElem?_map, List.getElem?_eq_getElem (by rw [HAL.out (s + 1)]; exact hi), List.getD_eq_getElem?_getD, List.getElem?_eq_getElem (by rw [HAL.out (s + 1)]; exact hi)]; rfl
        have hcA : wr.cell? ⟨gC, q, none⟩ = some (.int .i64 ((p : Int) + 1)) := by rw [hgt q hqL, HQP.out]
        have hcB : wr.cell? ⟨gC, o, none⟩ = some (.int .i64 (c : Int)) := by rw [hgt o hol, hc1]
        obtain ⟨Y, hY⟩ : ∃ Y, (ls.getD o []).length = Y := ⟨_, rfl⟩
        rw [hY] at hcq hy1 hc3
        unfold maxLen at hy2
        have ho0 : (0 : Int) ≤ (o : Int) := Int.natCast_nonneg o
        have ho1 : (o : Int) < (j : Int) := Int.ofNat_lt.2 hol
        have hwc : wrap64 ((c : Int) + 1) = (c : Int) + 1 := ft_w hc2
        have HDN : Hid (∀ m, Ow .i64 3 w4.heap.size (wr.drewN m) (.slice (some ⟨gC, 0, none⟩) j j) (atL ls (s + 1)) ∧ w5.grownBy (wr.drewN m) (some gC) ∧ Below w4.heap.size w4 (wr.drewN m)) := fun m => ⟨hCT.out.below (below_drewN (Below.refl _ _) _), grown_drewN hGR.out m, below_drewN hBR.out _⟩
        clear hrow hgt hY hc1 hrq
        by_cases hpc : p ≤ c
        case pos =>
          obtain ⟨de, de', de2, de3⟩ := ft_pos hpc
          clear hc3 hpc
          go_wp2
          go_quiet (fail)
          go_wp2
          go_roundw
          case rel => exact ⟨o + 1, by go_num, Nat.succ_le_of_lt hol, (HDN.out _).1, (HDN.out _).2.1, (HDN.out _).2.2⟩
          case measure => simp [intOf]; omega
        case neg =>
        obtain ⟨de, de2, de', df, df', de3, df3⟩ := ft_neg hpc hc3
        clear hc3 hpc
        go_wp2
        go_quiet (fail)
        go_wp2
        go_roundw
        case rel => exact ⟨o + 1, by go_num, Nat.succ_le_of_lt hol, (HDN.out _).1, (HDN.out _).2.1, (HDN.out _).2.2⟩
        case measure => simp [intOf]; omega


end Go.Proofs.Ytiadakponjpkmaa
