/- Subs compared; no condition. -/
import Derived.Test.YtfaflnhembceoaaSbA
namespace Go.Proofs.Ytfaflnhembceoaa
open Go.RowKit Go.ChangeShapes Go.WideShapes Go.ChangeAt
set_option linter.unusedVariables false
set_option linter.unusedSimpArgs false
set_option maxRecDepth 8000
theorem eqSubRowIdx (b off n cap j : Nat) (hj : j < n) (W : World) : (Instr.indexAt 24 (.slice (some ⟨b, off, none⟩) n cap) (.int .i64 (j : Int))).run Try.prog W = .ok (.pointer (some ⟨b, off + j * 3, none⟩)) W := by
  have hs : (sizeOf 35).run Try.prog W = .ok 3 W := by simp [sizeOf, typeInfo, Sem.run_bind]; cases hq : Try.prog.info? 35 with
    | none => have := sizeSub; rw [hq] at this; cases this
    | some i => have := sizeSub; rw [hq] at this; simp at this; simp [this]
  have hji : (j : Int) < (n : Int) := by omega
  have hn : ¬ n ≤ j := by omega
  have hadd : (⟨b, off, none⟩ : Addr).add (j * 3) = ⟨b, off + j * 3, none⟩ := by unfold Addr.add; split <;> simp_all
  simp [Instr.indexAt, asIntOf, run_underlying Try.underlying24, hji, hs, hadd, hn]
theorem eqSubRowWp {o : Oper} {a : Act} {w : World} {K : Act → World → Prop} {Q : Exit → Act → World → Prop} (x y : Operand) (ho : o.op = .indexAddr 24 x y) (b off n cap j : Nat) (hx : a.eval x = .slice (some ⟨b, off, none⟩) n cap) (hy : a.eval y = .int .i64 (j : Int)) (hj : j < n)
    (h : K (a.put o.dst (.pointer (some ⟨b, off + j * 3, none⟩))) w) : o.wp Try.prog a w K Q :=
  wp_val _ (by simp only [execOp, ho, hx, hy, Sem.run_bind, eqSubRowIdx b off n cap j hj, Result.andThen_ok, Sem.run_pure]) h
set_option maxHeartbeats 1600000 in
theorem eqSubRow (v v' : Value) (xs ys : List V3) (q : Nat → Bool) (w : World) (h : Rq w v xs) (h' : Rq w v' ys)
    (hq : ∀ j (h1 : j < xs.length) (h2 : j < ys.length) W, Below w.heap.size w W → Calls Try.prog 59 #[.agg #[xs[j].1, xs[j].2.1, xs[j].2.2], .agg #[ys[j].1, ys[j].2.1, ys[j].2.2]] W fun e w' => e = .returned (.bool (q j)) ∧ Below W.heap.size W w') :
   Calls Try.prog 25 #[v, v'] w fun e w' => ∃ r, e = .returned (.bool r) ∧ (r = true ↔ xs.length = ys.length ∧ ∀ j, j < xs.length → q j = true) ∧ Below w.heap.size w w' := by
  obtain ⟨a, cap, rfl, h1, h2, h3⟩ := h
  obtain ⟨a', cap', rfl, h1', h2', h3'⟩ := h'
  unfold maxLen at h2 h2'
  have HQ : Hid (∀ j (h1 : j < xs.length) (h2 : j < ys.length) W, Below w.heap.size w W → Calls Try.prog 59 #[.agg #[xs[j].1, xs[j].2.1, xs[j].2.2], .agg #[ys[j].1, ys[j].2.1, ys[j].2.2]] W fun e w' => e = .returned (.bool (q j)) ∧ Below W.heap.size W w') := hq
  clear hq
  by_cases hne : xs.length = ys.length
  · obtain ⟨n, hnx⟩ : ∃ n, xs.length = n := ⟨_, rfl⟩
    have hny : ys.length = n := by omega
    have HX : Hid (xs.length = n) := hnx
    have HY : Hid (ys.length = n) := hny
    rw [hnx] at h1
    rw [hny] at h1'
    rw [hnx, hny]
    have hneb : ((n : Int) != (n : Int)) = false := by simp
    clear hne hnx hny
    go_enter Try.func25, Try.ntmps25
    go_wp2
    go_loopw [5] (fun i wr => ∃ j : Nat, j ≤ n ∧ i = .int .i64 j ∧ Hid (∀ t, t < j → q t = true) ∧ Below w.heap.size w wr) (fun i _ => n - (intOf i).toNat)
    case atStart => exact ⟨0, Nat.zero_le _, rfl, fun t ht => by omega, Below.refl _ _⟩
    case round =>
      obtain ⟨j, hj, rfl, hall, hbr⟩ := hrel
      by_cases hlt : j < n
      · have hjx : j < xs.length := by have h := HX.out; omega
        have hjy : j < ys.length := by have h := HY.out; omega
        rcases h3 with h3 | ⟨b, off, rfl, h4⟩
        · subst h3; simp at hjx
        rcases h3' with h3' | ⟨b', off', rfl, h4'⟩
        · subst h3'; simp at hjy
        have hr : ∀ W, Below w.heap.size w W → W.rangeAt b (off + j * 3) [xs[j].1, xs[j].2.1, xs[j].2.2] := fun W hW => range3 ((hW.cell (block_lt_of_cell (h4 j hjx).1)).trans (h4 j hjx).1) ((hW.cell (block_lt_of_cell (h4 j hjx).2.1)).trans (h4 j hjx).2.1) ((hW.cell (block_lt_of_cell (h4 j hjx).2.2)).trans (h4 j hjx).2.2)
        have hr' : ∀ W, Below w.heap.size w W → W.rangeAt b' (off' + j * 3) [ys[j].1, ys[j].2.1, ys[j].2.2] := fun W hW => range3 ((hW.cell (block_lt_of_cell (h4' j hjy).1)).trans (h4' j hjy).1) ((hW.cell (block_lt_of_cell (h4' j hjy).2.1)).trans (h4' j hjy).2.1) ((hW.cell (block_lt_of_cell (h4' j hjy).2.2)).trans (h4' j hjy).2.2)
        have HR : Hid (∀ W, Below w.heap.size w W → W.rangeAt b (off + j * 3) [xs[j].1, xs[j].2.1, xs[j].2.2]) := hr
        have HR' : Hid (∀ W, Below w.heap.size w W → W.rangeAt b' (off' + j * 3) [ys[j].1, ys[j].2.1, ys[j].2.2]) := hr'
        have HE : Hid (∀ W, Below w.heap.size w W → Calls Try.prog 59 #[.agg #[xs[j].1, xs[j].2.1, xs[j].2.2], .agg #[ys[j].1, ys[j].2.1, ys[j].2.2]] W fun e w' => e = .returned (.bool (q j)) ∧ Below W.heap.size W w') := fun W hW => HQ.out j hjx hjy W hW
        clear h4 h4' hr hr' hneb HQ
        go_wp2
        refine region_inv (by kernel_rfl) (by kernel_rfl) (JE2 (.slice (some ⟨b, off, none⟩) n cap) (.slice (some ⟨b', off', none⟩) n cap') j b (off + j * 3) b' (off' + j * 3) (.agg #[xs[j].1, xs[j].2.1, xs[j].2.2]) (.agg #[ys[j].1, ys[j].2.1, ys[j].2.2]) (q j) (fun u0 u1 u2 u3 u4' u5' u6 u7 u8 u9 => ⟨#[.slice (some ⟨b, off, none⟩) n cap, .slice (some ⟨b', off', none⟩) n cap', undef, undef, u4, .int .i64 j, .slice (some ⟨b, off, none⟩) n cap, .int .i64 n, .slice (some ⟨b', off', none⟩) n cap', .int .i64 n, .bool false, .int .i64 j, .slice (some ⟨b, off, none⟩) n cap, .int .i64 n, .bool true, u15, u16, u0, u1, u2, u3, u4', u5', u6, u7, u8, u9], []⟩) (Below w.heap.size w)) ⟨_, _, _, _, _, _, _, _, _, _, rfl, hbr.drew, by simp, by simp, by simp, by simp, by simp, by simp, by simp, by simp, by simp, by simp⟩ ⟨?_, ?_, ?_, ?_, ?_, ?_, ?_, ?_, ?_, ?_, trivial⟩ ?_
        · rintro d A W ⟨x0, x1, x2, x3, x4, x5, x6, x7, x8, x9, rfl, I, e0, e1, e2, e3, e4, e5, e6, e7, e8, e9⟩ hn hd
          exact wp_val _ rfl ⟨_, x1, x2, x3, x4, x5, x6, x7, x8, x9, rfl, I, fun _ => rfl, e1, e2, e3, e4, e5, e6, e7, e8, e9⟩
        · rintro d A W ⟨x0, x1, x2, x3, x4, x5, x6, x7, x8, x9, rfl, I, e0, e1, e2, e3, e4, e5, e6, e7, e8, e9⟩ hn hd
          exact wp_val _ rfl ⟨x0, _, x2, x3, x4, x5, x6, x7, x8, x9, rfl, I, e0, fun _ => rfl, e2, e3, e4, e5, e6, e7, e8, e9⟩
        · rintro d A W ⟨x0, x1, x2, x3, x4, x5, x6, x7, x8, x9, rfl, I, e0, e1, e2, e3, e4, e5, e6, e7, e8, e9⟩ hn hd
          obtain rfl := e0 (hd ⟨0, .data⟩ (by simp))
          obtain rfl := e1 (hd ⟨1, .data⟩ (by simp))
          exact eqSubRowWp _ _ rfl b off n cap j rfl rfl hlt ⟨_, _, _, x3, x4, x5, x6, x7, x8, x9, rfl, I, e0, e1, fun _ => rfl, e3, e4, e5, e6, e7, e8, e9⟩
        · rintro d A W ⟨x0, x1, x2, x3, x4, x5, x6, x7, x8, x9, rfl, I, e0, e1, e2, e3, e4, e5, e6, e7, e8, e9⟩ hn hd
          obtain rfl := e2 (hd ⟨2, .data⟩ (by simp))
          exact wp_load_mid 35 _ rfl b (off + j * 3) rfl [xs[j].1, xs[j].2.1, xs[j].2.2] _ (HR.out W I) Try.underlying35 rfl sizeSub ⟨x0, x1, _, _, x4, x5, x6, x7, x8, x9, rfl, I, e0, e1, e2, fun _ => rfl, e4, e5, e6, e7, e8, e9⟩
        · rintro d A W ⟨x0, x1, x2, x3, x4, x5, x6, x7, x8, x9, rfl, I, e0, e1, e2, e3, e4, e5, e6, e7, e8, e9⟩ hn hd
          exact wp_val _ rfl ⟨x0, x1, x2, x3, _, x5, x6, x7, x8, x9, rfl, I, e0, e1, e2, e3, fun _ => rfl, e5, e6, e7, e8, e9⟩
        · rintro d A W ⟨x0, x1, x2, x3, x4, x5, x6, x7, x8, x9, rfl, I, e0, e1, e2, e3, e4, e5, e6, e7, e8, e9⟩ hn hd
          exact wp_val _ rfl ⟨x0, x1, x2, x3, x4, _, x6, x7, x8, x9, rfl, I, e0, e1, e2, e3, e4, fun _ => rfl, e6, e7, e8, e9⟩
        · rintro d A W ⟨x0, x1, x2, x3, x4, x5, x6, x7, x8, x9, rfl, I, e0, e1, e2, e3, e4, e5, e6, e7, e8, e9⟩ hn hd
          obtain rfl := e4 (hd ⟨4, .data⟩ (by simp))
          obtain rfl := e5 (hd ⟨5, .data⟩ (by simp))
          exact eqSubRowWp _ _ rfl b' off' n cap' j rfl rfl hlt ⟨x0, x1, x2, x3, _, _, _, x7, x8, x9, rfl, I, e0, e1, e2, e3, e4, e5, fun _ => rfl, e7, e8, e9⟩
        · rintro d A W ⟨x0, x1, x2, x3, x4, x5, x6, x7, x8, x9, rfl, I, e0, e1, e2, e3, e4, e5, e6, e7, e8, e9⟩ hn hd
          obtain rfl := e6 (hd ⟨6, .data⟩ (by simp))
          exact wp_load_mid 35 _ rfl b' (off' + j * 3) rfl [ys[j].1, ys[j].2.1, ys[j].2.2] _ (HR'.out W I) Try.underlying35 rfl sizeSub ⟨x0, x1, x2, x3, x4, x5, _, _, x8, x9, rfl, I, e0, e1, e2, e3, e4, e5, e6, fun _ => rfl, e8, e9⟩
        · rintro d A W ⟨x0, x1, x2, x3, x4, x5, x6, x7, x8, x9, rfl, I, e0, e1, e2, e3, e4, e5, e6, e7, e8, e9⟩ hn hd
          obtain rfl := e3 (hd ⟨3, .data⟩ (by simp))
          obtain rfl := e7 (hd ⟨7, .data⟩ (by simp))
          refine wp_call 59 #[.agg #[xs[j].1, xs[j].2.1, xs[j].2.2], .agg #[ys[j].1, ys[j].2.1, ys[j].2.2]] (by kernel_rfl) _ (HE.out W I) ?_
          rintro e W' ⟨rfl, hb1⟩
          exact ⟨_, rfl, x0, x1, x2, _, x4, x5, x6, _, _, x9, rfl, belowCall I hb1 I.size, e0, e1, e2, e3, e4, e5, e6, e7, fun _ => rfl, e9⟩
        · rintro d A W ⟨x0, x1, x2, x3, x4, x5, x6, x7, x8, x9, rfl, I, e0, e1, e2, e3, e4, e5, e6, e7, e8, e9⟩ hn hd
          obtain rfl := e8 (hd ⟨8, .data⟩ (by simp))
          exact wp_val _ rfl ⟨x0, x1, x2, x3, x4, x5, x6, x7, _, _, rfl, I, e0, e1, e2, e3, e4, e5, e6, e7, e8, fun _ => rfl⟩
        · rintro d A W ⟨x0, x1, x2, x3, x4, x5, x6, x7, x8, x9, rfl, I, e0, e1, e2, e3, e4, e5, e6, e7, e8, e9⟩ hd
          obtain rfl := e0 (hd 0 (by decide))
          obtain rfl := e1 (hd 1 (by decide))
          obtain rfl := e2 (hd 2 (by decide))
          obtain rfl := e3 (hd 3 (by decide))
          obtain rfl := e4 (hd 4 (by decide))
          obtain rfl := e5 (hd 5 (by decide))
          obtain rfl := e6 (hd 6 (by decide))
          obtain rfl := e7 (hd 7 (by decide))
          obtain rfl := e8 (hd 8 (by decide))
          obtain rfl := e9 (hd 9 (by decide))
          clear e0 e1 e2 e3 e4 e5 e6 e7 e8 e9 hd
          cases heq : q j with
          | false =>
            have hab : Hid (¬ ∀ j, j < n → q j = true) := fun h => by have := h j hlt; rw [heq] at this; cases this
            go_wp2
            go_ret
            exact ⟨_, rfl, ⟨fun h => (by cases h), fun h => absurd (fun j hj => h.2 j hj) hab.out⟩, I⟩
          | true =>
            go_wp2
            go_roundw
            case rel =>
              refine ⟨j + 1, by omega, by go_num, fun t ht => ?_, I⟩
              by_cases hjk : t < j
              · exact hall.out t hjk
              · obtain rfl : t = j := by omega
                exact heq
            case measure => simp [intOf]; omega
      · obtain rfl : j = n := by omega
        clear h3 h3'
        go_wp2
        go_ret
        exact ⟨_, rfl, ⟨fun _ => ⟨by trivial, hall.out⟩, fun _ => rfl⟩, hbr⟩
  · have hneb : ((xs.length : Int) != (ys.length : Int)) = true := by rw [bne_iff_ne]; omega
    have hab : Hid (¬ xs.length = ys.length) := hne
    clear hne h3 h3'
    go_enter Try.func25, Try.ntmps25
    go_wp2
    go_ret
    exact ⟨_, rfl, ⟨fun h => (by cases h), fun h => absurd h.1 hab.out⟩, Below.refl _ _⟩

set_option maxHeartbeats 800000 in
theorem eqSub_c (p q p' q' : Bool) (v v' : Value) (xs ys : Fts) (w : World) (h : Rp mf mg w v xs) (h' : Rp mf mg w v' ys) :
   Calls Try.prog 59 #[.agg (S3 p q v), .agg (S3 p' q' v')] w fun e w' => e = .returned (.bool (decide ((p, q, xs) = (p', q', ys)))) ∧ Below w.heap.size w w' := by
  have hb : Below w.heap.size w ((w.alloc (Obj.cells (S3 p q v) 35)).alloc (Obj.cells (S3 p' q' v') 35)) := ((Below.refl _ _).alloc (Nat.le_refl _) _).alloc (by simp) _
  have HB : Hid _ := hb
  have H := (h.below hb)
  have H' := (h'.below hb)
  have HH : Hid (Rp mf mg ((w.alloc (Obj.cells (S3 p q v) 35)).alloc (Obj.cells (S3 p' q' v') 35)) v xs ∧ Rp mf mg ((w.alloc (Obj.cells (S3 p q v) 35)).alloc (Obj.cells (S3 p' q' v') 35)) v' ys) := ⟨H, H'⟩
  obtain ⟨a, cap, rfl, -⟩ := h
  obtain ⟨a', cap', rfl, -⟩ := h'
  clear hb H H'
  go_enter Try.func59, Try.ntmps59
  go_wp2_with (go_at_call 85; refine (eqFeatureS_c _ _ _ _ _ HH.out.1 HH.out.2).mono ?_; rintro e w2 ⟨rfl, b2⟩)
  · clear HH
    go_ret
    exact ⟨by simp_all, HB.out⟩
  · clear HH
    go_ret
    exact ⟨by simp_all, HB.out⟩
  · clear HH
    go_ret
    exact ⟨by simp_all, belowCall HB.out b2 HB.out.size⟩
  · clear HH
    go_ret
    exact ⟨by simp_all, belowCall HB.out b2 HB.out.size⟩
theorem eqSubS_c (v v' : Value) (xs ys : Sbs) (w : World) (h : RdS w v xs) (h' : RdS w v' ys) :
   Calls Try.prog 25 #[v, v'] w fun e w' => e = .returned (.bool (decide (xs = ys))) ∧ Below w.heap.size w w' := by
  obtain ⟨lv, hl, hr, hc⟩ := h
  obtain ⟨lv', hl', hr', hc'⟩ := h'
  refine (eqSubRow v v' _ _ (fun j => decide (xs[j]? = ys[j]?)) w hr hr' ?_).mono ?_
  · intro j h1 h2 W hW
    have g1 : j < xs.length := by omega
    have g2 : j < ys.length := by omega
    have k1 := hc j g1 h1
    have k2 := hc' j g2 h2
    rw [k1.1, k2.1, k1.2.1, k2.2.1]
    refine (eqSub_c _ _ _ _ _ _ _ _ W (k1.2.2.below hW) (k2.2.2.below hW)).mono ?_
    rintro e w' ⟨rfl, hb⟩
    exact ⟨by simp [List.getElem?_eq_getElem g1, List.getElem?_eq_getElem g2, Prod.ext_iff], hb⟩
  · rintro e w' ⟨r, rfl, hrr, hb⟩
    refine ⟨?_, hb⟩
    simp only [decide_eq_true_eq] at hrr
    have : r = decide (xs = ys) := by
      rw [Bool.eq_iff_iff, hrr, decide_eq_true_eq]
      constructor
      · rintro ⟨hq, ha⟩
        apply List.ext_getElem?
        intro i
        by_cases hi : i < xs.length
        · exact ha i (by omega)
        · rw [List.getElem?_eq_none (by omega), List.getElem?_eq_none (by omega)]
      · rintro rfl; exact ⟨by omega, fun _ _ => rfl⟩
    rw [this]
end Go.Proofs.Ytfaflnhembceoaa
