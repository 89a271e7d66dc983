/- Rows of clashes; no condition. -/
import Derived.Test.YtfaflnhembceoaaFlt
import Derived.Test.YtfaflnhembceoaaDrw
namespace Go.Proofs.Ytfaflnhembceoaa
open Go.RowKit Go.ChangeShapes Go.WideShapes Go.ChangeAt
set_option linter.unusedVariables false
set_option linter.unusedSimpArgs false
set_option maxRecDepth 8000
abbrev Ch := Int × Int × Int × Int × Int
abbrev chC : Ch → List Value := fun x => [.int .i64 x.1, .int .i64 x.2.1, .int .i64 x.2.2.1, .int .i64 x.2.2.2.1, .int .i64 x.2.2.2.2]
theorem chC_len (x : Ch) : (chC x).length = 5 := rfl
theorem sizeCh : (Try.prog.info? 82).map (·.size) = some 5 := by kernel_rfl
theorem infoCh : (Try.prog.info? 82).map (fun i => (i.zero, i.size, i.bytes)) = some (some (.agg #[.int .i64 0, .int .i64 0, .int .i64 0, .int .i64 0, .int .i64 0]), 5, 40) := by kernel_rfl
theorem chC_one {ls : List Ch} : ∀ u ∈ ls.flatMap chC, u.oneCell' = true := by
  intro u hu
  obtain ⟨x, -, hx⟩ := List.mem_flatMap.1 hu
  simp only [chC, List.mem_cons, List.not_mem_nil, or_false] at hx
  rcases hx with rfl | rfl | rfl | rfl | rfl <;> rfl
set_option maxHeartbeats 1600000 in
theorem eqCh_c (x0 x1 x2 x3 x4 y0 y1 y2 y3 y4 : Int) (w : World) : Calls Try.prog 62 #[.agg #[.int .i64 x0, .int .i64 x1, .int .i64 x2, .int .i64 x3, .int .i64 x4], .agg #[.int .i64 y0, .int .i64 y1, .int .i64 y2, .int .i64 y3, .int .i64 y4]] w fun e w' => e = .returned (.bool (decide ((x0, x1, x2, x3, x4) = (y0, y1, y2, y3, y4)))) ∧ Below w.heap.size w w' := by
  have HB : Hid (Below w.heap.size w ((w.alloc (Obj.cells #[.int .i64 x0, .int .i64 x1, .int .i64 x2, .int .i64 x3, .int .i64 x4] 82)).alloc (Obj.cells #[.int .i64 y0, .int .i64 y1, .int .i64 y2, .int .i64 y3, .int .i64 y4] 82))) := ((Below.refl _ _).alloc (Nat.le_refl _) _).alloc (by simp) _
  go_enter Try.func62, Try.ntmps62
  go_wp2
  all_goals
    go_ret
    refine ⟨?_, HB.out⟩
    simp_all
theorem ixCh (b off n cap j : Nat) (hj : j < n) (W : World) : (Instr.indexAt 42 (.slice (some ⟨b, off, none⟩) n cap) (.int .i64 (j : Int))).run Try.prog W = .ok (.pointer (some ⟨b, off + j * 5, none⟩)) W := by
  have hs : (sizeOf 82).run Try.prog W = .ok 5 W := by simp [sizeOf, typeInfo, Sem.run_bind]; cases hq : Try.prog.info? 82 with
    | none => have := sizeCh; rw [hq] at this; cases this
    | some i => have := sizeCh; rw [hq] at this; simp at this; simp [this]
  have hji : (j : Int) < (n : Int) := by omega
  have hn : ¬ n ≤ j := by omega
  have hadd : (⟨b, off, none⟩ : Addr).add (j * 5) = ⟨b, off + j * 5, none⟩ := by unfold Addr.add; split <;> simp_all
  simp [Instr.indexAt, asIntOf, run_underlying Try.underlying42, hji, hs, hadd, hn]
theorem ixwCh {o : Oper} {a : Act} {w : World} {K : Act → World → Prop} {Q : Exit → Act → World → Prop} (x y : Operand) (ho : o.op = .indexAddr 42 x y) (b off n cap j : Nat) (hx : a.eval x = .slice (some ⟨b, off, none⟩) n cap) (hy : a.eval y = .int .i64 (j : Int)) (hj : j < n)
    (h : K (a.put o.dst (.pointer (some ⟨b, off + j * 5, none⟩))) w) : o.wp Try.prog a w K Q :=
  wp_val _ (by simp only [execOp, ho, hx, hy, Sem.run_bind, ixCh b off n cap j hj, Result.andThen_ok, Sem.run_pure]) h
/-- two elements are taken and compared, in whatever order -/
def JECh (v v' : Value) (j : Nat) (b o b' o' : Nat) (x y : Value) (q : Bool) (U : Value → Value → Value → Value → Value → Value → Value → Value → Value → Value → Act) (S : World → Prop) (d : Nat → Bool) (A : Act) (W : World) : Prop :=
  ∃ u0 u1 u2 u3 u4 u5 u6 u7 u8 u9 : Value, A = U u0 u1 u2 u3 u4 u5 u6 u7 u8 u9 ∧ S W ∧ (d 0 = true → u0 = v) ∧ (d 1 = true → u1 = .int .i64 j) ∧ (d 2 = true → u2 = .pointer (some ⟨b, o, none⟩)) ∧ (d 3 = true → u3 = x) ∧
    (d 4 = true → u4 = v') ∧ (d 5 = true → u5 = .int .i64 j) ∧ (d 6 = true → u6 = .pointer (some ⟨b', o', none⟩)) ∧ (d 7 = true → u7 = y) ∧ (d 8 = true → u8 = .bool q) ∧ (d 9 = true → u9 = .bool !q)
set_option maxHeartbeats 3200000 in
theorem eqRowCh (v v' : Value) (xs ys : List Ch) (q : Nat → Bool) (w : World) (h : Rg 5 chC w v xs) (h' : Rg 5 chC w v' ys)
    (hq : ∀ j (h1 : j < xs.length) (h2 : j < ys.length) W, Below w.heap.size w W → Calls Try.prog 62 #[(.agg (chC xs[j]).toArray), (.agg (chC ys[j]).toArray)] W fun e w' => e = .returned (.bool (q j)) ∧ Below W.heap.size W w') :
   Calls Try.prog 30 #[v, v'] w fun e w' => ∃ r, e = .returned (.bool r) ∧ (r = true ↔ xs.length = ys.length ∧ ∀ j, j < xs.length → q j = true) ∧ Below w.heap.size w w' := by
  obtain ⟨a, cap, rfl, h1, h2, h3⟩ := h
  obtain ⟨a', cap', rfl, h1', h2', h3'⟩ := h'
  unfold maxLen at h2 h2'
  have HQ : Hid (∀ j (h1 : j < xs.length) (h2 : j < ys.length) W, Below w.heap.size w W → Calls Try.prog 62 #[(.agg (chC xs[j]).toArray), (.agg (chC ys[j]).toArray)] W fun e w' => e = .returned (.bool (q j)) ∧ Below W.heap.size W w') := hq
  clear hq
  by_cases hne : xs.length = ys.length
  · obtain ⟨n, hnx⟩ : ∃ n, xs.length = n := ⟨_, rfl⟩
    have hny : ys.length = n := by omega
    have HX : Hid (xs.length = n) := hnx
    have HY : Hid (ys.length = n) := hny
    rw [hnx] at h1
    rw [hny] at h1'
    rw [hnx, hny]
    have hneb : ((n : Int) != (n : Int)) = false := by simp
    clear hne hnx hny
    go_enter Try.func30, Try.ntmps30
    go_wp2
    go_loopw [5] (fun i wr => ∃ j : Nat, j ≤ n ∧ i = .int .i64 j ∧ Hid (∀ t, t < j → q t = true) ∧ Below w.heap.size w wr) (fun i _ => n - (intOf i).toNat)
    case atStart => exact ⟨0, Nat.zero_le _, rfl, fun t ht => by omega, Below.refl _ _⟩
    case round =>
      obtain ⟨j, hj, rfl, hall, hbr⟩ := hrel
      by_cases hlt : j < n
      · have hjx : j < xs.length := by have h := HX.out; omega
        have hjy : j < ys.length := by have h := HY.out; omega
        rcases h3 with h3 | ⟨b, off, rfl, h4⟩
        · subst h3; simp at hjx
        rcases h3' with h3' | ⟨b', off', rfl, h4'⟩
        · subst h3'; simp at hjy
        have HR : Hid (∀ W, Below w.heap.size w W → W.rangeAt b (off + j * 5) (chC xs[j])) := fun W hW => rangeAt_below (h4 j hjx) hW (block_lt_of_cell (h4 j hjx 0 _ rfl))
        have HR' : Hid (∀ W, Below w.heap.size w W → W.rangeAt b' (off' + j * 5) (chC ys[j])) := fun W hW => rangeAt_below (h4' j hjy) hW (block_lt_of_cell (h4' j hjy 0 _ rfl))
        have HE : Hid (∀ W, Below w.heap.size w W → Calls Try.prog 62 #[(.agg (chC xs[j]).toArray), (.agg (chC ys[j]).toArray)] W fun e w' => e = .returned (.bool (q j)) ∧ Below W.heap.size W w') := fun W hW => HQ.out j hjx hjy W hW
        clear h4 h4' hneb HQ
        go_wp2
        refine region_inv (by kernel_rfl) (by kernel_rfl) (JECh (.slice (some ⟨b, off, none⟩) n cap) (.slice (some ⟨b', off', none⟩) n cap') j b (off + j * 5) b' (off' + j * 5) (.agg (chC xs[j]).toArray) (.agg (chC ys[j]).toArray) (q j) (fun u0 u1 u2 u3 u4' u5' u6 u7 u8 u9 => ⟨#[.slice (some ⟨b, off, none⟩) n cap, .slice (some ⟨b', off', none⟩) n cap', undef, undef, u4, .int .i64 j, .slice (some ⟨b, off, none⟩) n cap, .int .i64 n, .slice (some ⟨b', off', none⟩) n cap', .int .i64 n, .bool false, .int .i64 j, .slice (some ⟨b, off, none⟩) n cap, .int .i64 n, .bool true, u15, u16, u0, u1, u2, u3, u4', u5', u6, u7, u8, u9], []⟩) (Below w.heap.size w)) ⟨_, _, _, _, _, _, _, _, _, _, rfl, hbr.drew, by simp, by simp, by simp, by simp, by simp, by simp, by simp, by simp, by simp, by simp⟩ ⟨?_, ?_, ?_, ?_, ?_, ?_, ?_, ?_, ?_, ?_, trivial⟩ ?_
        · rintro d A W ⟨x0, x1, x2, x3, x4, x5, x6, x7, x8, x9, rfl, I, e0, e1, e2, e3, e4, e5, e6, e7, e8, e9⟩ hn hd
          exact wp_val _ rfl ⟨_, x1, x2, x3, x4, x5, x6, x7, x8, x9, rfl, I, fun _ => rfl, e1, e2, e3, e4, e5, e6, e7, e8, e9⟩
        · rintro d A W ⟨x0, x1, x2, x3, x4, x5, x6, x7, x8, x9, rfl, I, e0, e1, e2, e3, e4, e5, e6, e7, e8, e9⟩ hn hd
          exact wp_val _ rfl ⟨x0, _, x2, x3, x4, x5, x6, x7, x8, x9, rfl, I, e0, fun _ => rfl, e2, e3, e4, e5, e6, e7, e8, e9⟩
        · rintro d A W ⟨x0, x1, x2, x3, x4, x5, x6, x7, x8, x9, rfl, I, e0, e1, e2, e3, e4, e5, e6, e7, e8, e9⟩ hn hd
          obtain rfl := e0 (hd ⟨0, .data⟩ (by simp))
          obtain rfl := e1 (hd ⟨1, .data⟩ (by simp))
          exact ixwCh _ _ rfl b off n cap j rfl rfl hlt ⟨_, _, _, x3, x4, x5, x6, x7, x8, x9, rfl, I, e0, e1, fun _ => rfl, e3, e4, e5, e6, e7, e8, e9⟩
        · rintro d A W ⟨x0, x1, x2, x3, x4, x5, x6, x7, x8, x9, rfl, I, e0, e1, e2, e3, e4, e5, e6, e7, e8, e9⟩ hn hd
          obtain rfl := e2 (hd ⟨2, .data⟩ (by simp))
          exact wp_load_mid 82 _ rfl b (off + j * 5) rfl (chC xs[j]) _ (HR.out W I) Try.underlying82 rfl sizeCh ⟨x0, x1, _, _, x4, x5, x6, x7, x8, x9, rfl, I, e0, e1, e2, fun _ => rfl, e4, e5, e6, e7, e8, e9⟩
        · rintro d A W ⟨x0, x1, x2, x3, x4, x5, x6, x7, x8, x9, rfl, I, e0, e1, e2, e3, e4, e5, e6, e7, e8, e9⟩ hn hd
          exact wp_val _ rfl ⟨x0, x1, x2, x3, _, x5, x6, x7, x8, x9, rfl, I, e0, e1, e2, e3, fun _ => rfl, e5, e6, e7, e8, e9⟩
        · rintro d A W ⟨x0, x1, x2, x3, x4, x5, x6, x7, x8, x9, rfl, I, e0, e1, e2, e3, e4, e5, e6, e7, e8, e9⟩ hn hd
          exact wp_val _ rfl ⟨x0, x1, x2, x3, x4, _, x6, x7, x8, x9, rfl, I, e0, e1, e2, e3, e4, fun _ => rfl, e6, e7, e8, e9⟩
        · rintro d A W ⟨x0, x1, x2, x3, x4, x5, x6, x7, x8, x9, rfl, I, e0, e1, e2, e3, e4, e5, e6, e7, e8, e9⟩ hn hd
          obtain rfl := e4 (hd ⟨4, .data⟩ (by simp))
          obtain rfl := e5 (hd ⟨5, .data⟩ (by simp))
          exact ixwCh _ _ rfl b' off' n cap' j rfl rfl hlt ⟨x0, x1, x2, x3, _, _, _, x7, x8, x9, rfl, I, e0, e1, e2, e3, e4, e5, fun _ => rfl, e7, e8, e9⟩
        · rintro d A W ⟨x0, x1, x2, x3, x4, x5, x6, x7, x8, x9, rfl, I, e0, e1, e2, e3, e4, e5, e6, e7, e8, e9⟩ hn hd
          obtain rfl := e6 (hd ⟨6, .data⟩ (by simp))
          exact wp_load_mid 82 _ rfl b' (off' + j * 5) rfl (chC ys[j]) _ (HR'.out W I) Try.underlying82 rfl sizeCh ⟨x0, x1, x2, x3, x4, x5, _, _, x8, x9, rfl, I, e0, e1, e2, e3, e4, e5, e6, fun _ => rfl, e8, e9⟩
        · rintro d A W ⟨x0, x1, x2, x3, x4, x5, x6, x7, x8, x9, rfl, I, e0, e1, e2, e3, e4, e5, e6, e7, e8, e9⟩ hn hd
          obtain rfl := e3 (hd ⟨3, .data⟩ (by simp))
          obtain rfl := e7 (hd ⟨7, .data⟩ (by simp))
          refine wp_call 62 #[(.agg (chC xs[j]).toArray), (.agg (chC ys[j]).toArray)] (by kernel_rfl) _ (HE.out W I) ?_
          rintro e W' ⟨rfl, hb1⟩
          exact ⟨_, rfl, x0, x1, x2, _, x4, x5, x6, _, _, x9, rfl, belowCall I hb1 I.size, e0, e1, e2, e3, e4, e5, e6, e7, fun _ => rfl, e9⟩
        · rintro d A W ⟨x0, x1, x2, x3, x4, x5, x6, x7, x8, x9, rfl, I, e0, e1, e2, e3, e4, e5, e6, e7, e8, e9⟩ hn hd
          obtain rfl := e8 (hd ⟨8, .data⟩ (by simp))
          exact wp_val _ rfl ⟨x0, x1, x2, x3, x4, x5, x6, x7, _, _, rfl, I, e0, e1, e2, e3, e4, e5, e6, e7, e8, fun _ => rfl⟩
        · rintro d A W ⟨x0, x1, x2, x3, x4, x5, x6, x7, x8, x9, rfl, I, e0, e1, e2, e3, e4, e5, e6, e7, e8, e9⟩ hd
          obtain rfl := e0 (hd 0 (by decide))
          obtain rfl := e1 (hd 1 (by decide))
          obtain rfl := e2 (hd 2 (by decide))
          obtain rfl := e3 (hd 3 (by decide))
          obtain rfl := e4 (hd 4 (by decide))
          obtain rfl := e5 (hd 5 (by decide))
          obtain rfl := e6 (hd 6 (by decide))
          obtain rfl := e7 (hd 7 (by decide))
          obtain rfl := e8 (hd 8 (by decide))
          obtain rfl := e9 (hd 9 (by decide))
          clear e0 e1 e2 e3 e4 e5 e6 e7 e8 e9 hd
          cases heq : q j with
          | false =>
            have hab : Hid (¬ ∀ j, j < n → q j = true) := fun h => by have := h j hlt; rw [heq] at this; cases this
            go_wp2
            go_ret
            exact ⟨_, rfl, ⟨fun h => (by cases h), fun h => absurd (fun j hj => h.2 j hj) hab.out⟩, I⟩
          | true =>
            go_wp2
            go_roundw
            case rel =>
              refine ⟨j + 1, by omega, by go_num, fun t ht => ?_, I⟩
              by_cases hjk : t < j
              · exact hall.out t hjk
              · obtain rfl : t = j := by omega
                exact heq
            case measure => simp [intOf]; omega
      · obtain rfl : j = n := by omega
        clear h3 h3'
        go_wp2
        go_ret
        exact ⟨_, rfl, ⟨fun _ => ⟨by trivial, hall.out⟩, fun _ => rfl⟩, hbr⟩
  · have hneb : ((xs.length : Int) != (ys.length : Int)) = true := by rw [bne_iff_ne]; omega
    have hab : Hid (¬ xs.length = ys.length) := hne
    clear hne h3 h3'
    go_enter Try.func30, Try.ntmps30
    go_wp2
    go_ret
    exact ⟨_, rfl, ⟨fun h => (by cases h), fun h => absurd h.1 hab.out⟩, Below.refl _ _⟩
theorem eqChS_c (v v' : Value) (xs ys : List Ch) (w : World) (h : Rg 5 chC w v xs) (h' : Rg 5 chC w v' ys) :
   Calls Try.prog 30 #[v, v'] w fun e w' => e = .returned (.bool (decide (xs = ys))) ∧ Below w.heap.size w w' := by
  refine (eqRowCh v v' xs ys (fun j => decide (xs[j]? = ys[j]?)) w h h' ?_).mono ?_
  · intro j g1 g2 W hW
    refine (eqCh_c _ _ _ _ _ _ _ _ _ _ W).mono ?_
    rintro e w' ⟨rfl, hb⟩
    exact ⟨by simp [List.getElem?_eq_getElem g1, List.getElem?_eq_getElem g2, Prod.ext_iff], hb⟩
  · rintro e w' ⟨r, rfl, hr, hb⟩
    refine ⟨?_, hb⟩
    simp only [decide_eq_true_eq] at hr
    have : r = decide (xs = ys) := by
      rw [Bool.eq_iff_iff, hr, decide_eq_true_eq]
      constructor
      · rintro ⟨hl, ha⟩
        apply List.ext_getElem?
        intro i
        by_cases hi : i < xs.length
        · exact ha i hi
        · rw [List.getElem?_eq_none (by omega), List.getElem?_eq_none (by omega)]
      · rintro rfl; exact ⟨rfl, fun _ _ => rfl⟩
    rw [this]
def mkCh (q : Int) (i : Nat) : Ch := (q + 5 * (i : Int), q + 5 * (i : Int) + 1, q + 5 * (i : Int) + 1 + 1, q + 5 * (i : Int) + 1 + 1 + 1, q + 5 * (i : Int) + 1 + 1 + 1 + 1)
set_option maxHeartbeats 3200000 in
theorem markChS_c (v : Value) (ls : List Ch) (q : Int) (base : Nat) (w : World) (h : Og 5 chC 82 base w v ls) (h0 : 0 ≤ q) (hq : q + 5 * ls.length ≤ 1152921504606846976) :
   Calls Try.prog 31 #[v, .int .i64 q] w fun e w' => e = .returned (.int .i64 (q + 5 * ls.length)) ∧ Og 5 chC 82 base w' v (mkg (mkCh q) ls.length) ∧ w.grownBy w' v.ownBlock := by
  have hh := h
  rcases h.2 with ⟨rfl, hn⟩ | ⟨g, cap, cur, rfl, hb, hg, hnc, hcm, hcs, ht⟩
  · obtain rfl : ls = [] := List.eq_nil_of_length_eq_zero hn
    clear hn h
    go_enter Try.func31, Try.ntmps31
    go_wp2
    refine wp_loop_rounds 1 ?_
    rw [rounds_succ]
    go_wp2
    go_ret
    exact ⟨by simp, by simpa [mkg] using hh, grown_refl _ _⟩
  · clear h hg hcs ht
    unfold maxLen at hcm
    go_enter Try.func31, Try.ntmps31
    go_wp2
    go_loopw [1, 5] (fun c i wr => ∃ j : Nat, j ≤ ls.length ∧ i = .int .i64 j ∧ c = .int .i64 (q + 5 * j) ∧ Hid (Og 5 chC 82 base wr (.slice (some ⟨g, 0, none⟩) ls.length cap) (mkg (mkCh q) j ++ ls.drop j)) ∧ Hid (w.grownBy wr (some g))) (fun _ i _ => ls.length - (intOf i).toNat)
    case atStart => exact ⟨0, Nat.zero_le _, rfl, by simp, (by simpa [mkg] using hh : Og 5 chC 82 base w (.slice (some ⟨g, 0, none⟩) ls.length cap) (mkg (mkCh q) 0 ++ ls.drop 0)), grown_refl _ _⟩
    case round =>
      obtain ⟨j, hj, rfl, rfl, hw, hbr⟩ := hrel
      by_cases hlt : j < ls.length
      · have hlen : (mkg (mkCh q) j ++ ls.drop j).length = ls.length := by simp [mkg_len]; omega
        have hO : Og 5 chC 82 base wr (.slice (some ⟨g, 0, none⟩) (mkg (mkCh q) j ++ ls.drop j).length cap) (mkg (mkCh q) j ++ ls.drop j) := by rw [hlen]; exact hw.out
        obtain ⟨y0, d0⟩ : ∃ u, wr.cell? ⟨g, j * 5, none⟩ = some u := ⟨_, (World.ownsRow.cellAt hO (j * 5 + 0) (by omega)).trans (fm_at chC_len (mkg (mkCh q) j ++ ls.drop j) j 0 (by omega) (by decide))⟩
        obtain ⟨y1, d1⟩ : ∃ u, wr.cell? ⟨g, j * 5 + 1, none⟩ = some u := ⟨_, (World.ownsRow.cellAt hO (j * 5 + 1) (by omega)).trans (fm_at chC_len (mkg (mkCh q) j ++ ls.drop j) j 1 (by omega) (by decide))⟩
        obtain ⟨y2, d2⟩ : ∃ u, wr.cell? ⟨g, j * 5 + 2, none⟩ = some u := ⟨_, (World.ownsRow.cellAt hO (j * 5 + 2) (by omega)).trans (fm_at chC_len (mkg (mkCh q) j ++ ls.drop j) j 2 (by omega) (by decide))⟩
        obtain ⟨y3, d3⟩ : ∃ u, wr.cell? ⟨g, j * 5 + 3, none⟩ = some u := ⟨_, (World.ownsRow.cellAt hO (j * 5 + 3) (by omega)).trans (fm_at chC_len (mkg (mkCh q) j ++ ls.drop j) j 3 (by omega) (by decide))⟩
        obtain ⟨y4, d4⟩ : ∃ u, wr.cell? ⟨g, j * 5 + 4, none⟩ = some u := ⟨_, (World.ownsRow.cellAt hO (j * 5 + 4) (by omega)).trans (fm_at chC_len (mkg (mkCh q) j ++ ls.drop j) j 4 (by omega) (by decide))⟩
        have f0 := World.ownsRow.frozenAt hO (j * 5)
        have f1 := World.ownsRow.frozenAt hO (j * 5 + 1)
        have f2 := World.ownsRow.frozenAt hO (j * 5 + 2)
        have f3 := World.ownsRow.frozenAt hO (j * 5 + 3)
        have f4 := World.ownsRow.frozenAt hO (j * 5 + 4)
        have hS := own_setg chC_len hO j (by omega) (mkCh q j)
        rw [mkg_set (mkCh q) ls j hlt, hlen] at hS
        have HS : Hid (Og 5 chC 82 base (((((wr.setCell ⟨g, j * 5, none⟩ (.int .i64 (q + 5 * (j : Int)))).setCell ⟨g, j * 5 + 1, none⟩ (.int .i64 (q + 5 * (j : Int) + 1))).setCell ⟨g, j * 5 + 2, none⟩ (.int .i64 (q + 5 * (j : Int) + 1 + 1))).setCell ⟨g, j * 5 + 3, none⟩ (.int .i64 (q + 5 * (j : Int) + 1 + 1 + 1))).setCell ⟨g, j * 5 + 4, none⟩ (.int .i64 (q + 5 * (j : Int) + 1 + 1 + 1 + 1))) (.slice (some ⟨g, 0, none⟩) ls.length cap) (mkg (mkCh q) (j + 1) ++ ls.drop (j + 1))) := hS
        have HG : Hid (w.grownBy (((((wr.setCell ⟨g, j * 5, none⟩ (.int .i64 (q + 5 * (j : Int)))).setCell ⟨g, j * 5 + 1, none⟩ (.int .i64 (q + 5 * (j : Int) + 1))).setCell ⟨g, j * 5 + 2, none⟩ (.int .i64 (q + 5 * (j : Int) + 1 + 1))).setCell ⟨g, j * 5 + 3, none⟩ (.int .i64 (q + 5 * (j : Int) + 1 + 1 + 1))).setCell ⟨g, j * 5 + 4, none⟩ (.int .i64 (q + 5 * (j : Int) + 1 + 1 + 1 + 1))) (some g)) := grown_trans hbr.out (grown_setW (chC (mkCh q j)) wr g (j * 5))
        clear hO hS hw hbr hh
        go_wp2
        go_roundw
        case rel => exact ⟨j + 1, by omega, by go_num, by go_num, HS.out, HG.out⟩
        case measure => simp [intOf]; omega
      · obtain rfl : j = ls.length := by omega
        clear hh
        go_wp2
        go_ret
        exact ⟨rfl, by have := hw.out; simpa using this, hbr.out⟩
set_option maxHeartbeats 3200000 in
theorem heldChS_c (v : Value) (q : Int) (n : Nat) (w : World) (h : Rg 5 chC w v (mkg (mkCh q) n)) (h0 : 0 ≤ q) (hq : q + 5 * n ≤ 1152921504606846976) :
   Calls Try.prog 32 #[v, .int .i64 q] w fun e w' => e = .returned (.int .i64 (q + 5 * n)) ∧ Below w.heap.size w w' := by
  obtain ⟨a, cap, rfl, h1, h2, h3⟩ := h
  rw [mkg_len] at h1
  rw [mkg_len]
  unfold maxLen at h2
  go_enter Try.func32, Try.ntmps32
  go_wp2
  go_loopw [1, 5] (fun c i wr => ∃ j : Nat, j ≤ n ∧ i = .int .i64 j ∧ c = .int .i64 (q + 5 * j) ∧ Below w.heap.size w wr) (fun _ i _ => n - (intOf i).toNat)
  case atStart => exact ⟨0, Nat.zero_le _, rfl, by simp, Below.refl _ _⟩
  case round =>
    obtain ⟨j, hj, rfl, rfl, hbr⟩ := hrel
    by_cases hlt : j < n
    · rcases h3 with h3 | ⟨b, off, rfl, h4⟩
      · have := congrArg List.length h3; rw [mkg_len] at this; simp at this; omega
      have hc := h4 j (by rw [mkg_len]; exact hlt)
      rw [mkg_at] at hc
      have hcb : b < w.heap.size := block_lt_of_cell (hc 0 _ rfl)
      replace hc := rangeAt_below hc hbr hcb
      have c0 : wr.cell? ⟨b, off + j * 5, none⟩ = some (.int .i64 (q + 5 * (j : Int))) := hc 0 _ rfl
      have c1 : wr.cell? ⟨b, off + j * 5 + 1, none⟩ = some (.int .i64 (q + 5 * (j : Int) + 1)) := hc 1 _ rfl
      have c2 : wr.cell? ⟨b, off + j * 5 + 2, none⟩ = some (.int .i64 (q + 5 * (j : Int) + 1 + 1)) := hc 2 _ rfl
      have c3 : wr.cell? ⟨b, off + j * 5 + 3, none⟩ = some (.int .i64 (q + 5 * (j : Int) + 1 + 1 + 1)) := hc 3 _ rfl
      have c4 : wr.cell? ⟨b, off + j * 5 + 4, none⟩ = some (.int .i64 (q + 5 * (j : Int) + 1 + 1 + 1 + 1)) := hc 4 _ rfl
      have e0 : (q + 5 * (j : Int) != q + 5 * (j : Int)) = false := by simp
      have e1 : (q + 5 * (j : Int) + 1 != q + 5 * (j : Int) + 1) = false := by simp
      have e2 : (q + 5 * (j : Int) + 1 + 1 != q + 5 * (j : Int) + 1 + 1) = false := by simp
      have e3 : (q + 5 * (j : Int) + 1 + 1 + 1 != q + 5 * (j : Int) + 1 + 1 + 1) = false := by simp
      have e4 : (q + 5 * (j : Int) + 1 + 1 + 1 + 1 != q + 5 * (j : Int) + 1 + 1 + 1 + 1) = false := by simp
      clear h4 hc
      go_wp2
      go_roundw
      case rel => exact ⟨j + 1, by omega, by go_num, by go_num, hbr⟩
      case measure => simp [intOf]; omega
    · obtain rfl : j = n := by omega
      clear h3
      go_wp2
      go_ret
      exact ⟨rfl, hbr⟩
end Go.Proofs.Ytfaflnhembceoaa
