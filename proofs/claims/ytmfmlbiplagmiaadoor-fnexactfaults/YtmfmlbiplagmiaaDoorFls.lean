/- Rows of faults; no condition. -/
import Derived.Test.YtmfmlbiplagmiaaDoorTks
import Derived.Test.YtmfmlbiplagmiaaDoorCpb
import Derived.Test.YtmfmlbiplagmiaaDoorDet
import Derived.Test.YtmfmlbiplagmiaaDoorFlt
import Derived.Maps.AppendAt
namespace Go.Proofs.YtmfmlbiplagmiaaDoor
open Go.RowKit Go.ChangeShapes Go.WideShapes Go.ChangeAt
set_option linter.unusedVariables false
set_option linter.unusedSimpArgs false
set_option maxRecDepth 8000
abbrev Fl := Int × Int
abbrev flC : Fl → List Value := fun x => [.int .i64 x.1, .int .i64 x.2]
theorem flC_len (x : Fl) : (flC x).length = 2 := rfl
theorem sizeFl : (Tryd.prog.info? 65).map (·.size) = some 2 := by kernel_rfl
theorem infoFl : (Tryd.prog.info? 65).map (fun i => (i.zero, i.size, i.bytes)) = some (some (.agg #[.int .i64 0, .int .i64 0]), 2, 16) := by kernel_rfl
theorem flC_one {ls : List Fl} : ∀ u ∈ ls.flatMap flC, u.oneCell' = true := by
  intro u hu
  obtain ⟨x, -, hx⟩ := List.mem_flatMap.1 hu
  simp only [flC, List.mem_cons, List.not_mem_nil, or_false] at hx
  rcases hx with rfl | rfl <;> rfl
set_option maxHeartbeats 1600000 in
theorem eqFl_c (x0 x1 y0 y1 : Int) (w : World) : Calls Tryd.prog 52 #[.agg #[.int .i64 x0, .int .i64 x1], .agg #[.int .i64 y0, .int .i64 y1]] w fun e w' => e = .returned (.bool (decide ((x0, x1) = (y0, y1)))) ∧ Below w.heap.size w w' := by
  have HB : Hid (Below w.heap.size w ((w.alloc (Obj.cells #[.int .i64 x0, .int .i64 x1] 65)).alloc (Obj.cells #[.int .i64 y0, .int .i64 y1] 65))) := ((Below.refl _ _).alloc (Nat.le_refl _) _).alloc (by simp) _
  go_enter Tryd.func52, Tryd.ntmps52
  go_wp2
  all_goals
    go_ret
    refine ⟨?_, HB.out⟩
    simp_all
theorem ixFl (b off n cap j : Nat) (hj : j < n) (W : World) : (Instr.indexAt 31 (.slice (some ⟨b, off, none⟩) n cap) (.int .i64 (j : Int))).run Tryd.prog W = .ok (.pointer (some ⟨b, off + j * 2, none⟩)) W := by
  have hs : (sizeOf 65).run Tryd.prog W = .ok 2 W := by simp [sizeOf, typeInfo, Sem.run_bind]; cases hq : Tryd.prog.info? 65 with
    | none => have := sizeFl; rw [hq] at this; cases this
    | some i => have := sizeFl; rw [hq] at this; simp at this; simp [this]
  have hji : (j : Int) < (n : Int) := by omega
  have hn : ¬ n ≤ j := by omega
  have hadd : (⟨b, off, none⟩ : Addr).add (j * 2) = ⟨b, off + j * 2, none⟩ := by unfold Addr.add; split <;> simp_all
  simp [Instr.indexAt, asIntOf, run_underlying Tryd.underlying31, hji, hs, hadd, hn]
theorem ixwFl {o : Oper} {a : Act} {w : World} {K : Act → World → Prop} {Q : Exit → Act → World → Prop} (x y : Operand) (ho : o.op = .indexAddr 31 x y) (b off n cap j : Nat) (hx : a.eval x = .slice (some ⟨b, off, none⟩) n cap) (hy : a.eval y = .int .i64 (j : Int)) (hj : j < n)
    (h : K (a.put o.dst (.pointer (some ⟨b, off + j * 2, none⟩))) w) : o.wp Tryd.prog a w K Q :=
  wp_val _ (by simp only [execOp, ho, hx, hy, Sem.run_bind, ixFl b off n cap j hj, Result.andThen_ok, Sem.run_pure]) h
/-- two elements are taken and compared, in whatever order -/
def JEFl (v v' : Value) (j : Nat) (b o b' o' : Nat) (x y : Value) (q : Bool) (U : Value → Value → Value → Value → Value → Value → Value → Value → Value → Value → Act) (S : World → Prop) (d : Nat → Bool) (A : Act) (W : World) : Prop :=
  ∃ u0 u1 u2 u3 u4 u5 u6 u7 u8 u9 : Value, A = U u0 u1 u2 u3 u4 u5 u6 u7 u8 u9 ∧ S W ∧ (d 0 = true → u0 = v) ∧ (d 1 = true → u1 = .int .i64 j) ∧ (d 2 = true → u2 = .pointer (some ⟨b, o, none⟩)) ∧ (d 3 = true → u3 = x) ∧
    (d 4 = true → u4 = v') ∧ (d 5 = true → u5 = .int .i64 j) ∧ (d 6 = true → u6 = .pointer (some ⟨b', o', none⟩)) ∧ (d 7 = true → u7 = y) ∧ (d 8 = true → u8 = .bool q) ∧ (d 9 = true → u9 = .bool !q)
set_option maxHeartbeats 3200000 in
theorem eqRowFl (v v' : Value) (xs ys : List Fl) (q : Nat → Bool) (w : World) (h : Rg 2 flC w v xs) (h' : Rg 2 flC w v' ys)
    (hq : ∀ j (h1 : j < xs.length) (h2 : j < ys.length) W, Below w.heap.size w W → Calls Tryd.prog 52 #[(.agg (flC xs[j]).toArray), (.agg (flC ys[j]).toArray)] W fun e w' => e = .returned (.bool (q j)) ∧ Below W.heap.size W w') :
   Calls Tryd.prog 21 #[v, v'] w fun e w' => ∃ r, e = .returned (.bool r) ∧ (r = true ↔ xs.length = ys.length ∧ ∀ j, j < xs.length → q j = true) ∧ Below w.heap.size w w' := by
  obtain ⟨a, cap, rfl, h1, h2, h3⟩ := h
  obtain ⟨a', cap', rfl, h1', h2', h3'⟩ := h'
  unfold maxLen at h2 h2'
  have HQ : Hid (∀ j (h1 : j < xs.length) (h2 : j < ys.length) W, Below w.heap.size w W → Calls Tryd.prog 52 #[(.agg (flC xs[j]).toArray), (.agg (flC ys[j]).toArray)] W fun e w' => e = .returned (.bool (q j)) ∧ Below W.heap.size W w') := hq
  clear hq
  by_cases hne : xs.length = ys.length
  · obtain ⟨n, hnx⟩ : ∃ n, xs.length = n := ⟨_, rfl⟩
    have hny : ys.length = n := by omega
    have HX : Hid (xs.length = n) := hnx
    have HY : Hid (ys.length = n) := hny
    rw [hnx] at h1
    rw [hny] at h1'
    rw [hnx, hny]
    have hneb : ((n : Int) != (n : Int)) = false := by simp
    clear hne hnx hny
    go_enter Tryd.func21, Tryd.ntmps21
    go_wp2
    go_loopw [5] (fun i wr => ∃ j : Nat, j ≤ n ∧ i = .int .i64 j ∧ Hid (∀ t, t < j → q t = true) ∧ Below w.heap.size w wr) (fun i _ => n - (intOf i).toNat)
    case atStart => exact ⟨0, Nat.zero_le _, rfl, fun t ht => by omega, Below.refl _ _⟩
    case round =>
      obtain ⟨j, hj, rfl, hall, hbr⟩ := hrel
      by_cases hlt : j < n
      · have hjx : j < xs.length := by have h := HX.out; omega
        have hjy : j < ys.length := by have h := HY.out; omega
        rcases h3 with h3 | ⟨b, off, rfl, h4⟩
        · subst h3; simp at hjx
        rcases h3' with h3' | ⟨b', off', rfl, h4'⟩
        · subst h3'; simp at hjy
        have HR : Hid (∀ W, Below w.heap.size w W → W.rangeAt b (off + j * 2) (flC xs[j])) := fun W hW => rangeAt_below (h4 j hjx) hW (block_lt_of_cell (h4 j hjx 0 _ rfl))
        have HR' : Hid (∀ W, Below w.heap.size w W → W.rangeAt b' (off' + j * 2) (flC ys[j])) := fun W hW => rangeAt_below (h4' j hjy) hW (block_lt_of_cell (h4' j hjy 0 _ rfl))
        have HE : Hid (∀ W, Below w.heap.size w W → Calls Tryd.prog 52 #[(.agg (flC xs[j]).toArray), (.agg (flC ys[j]).toArray)] W fun e w' => e = .returned (.bool (q j)) ∧ Below W.heap.size W w') := fun W hW => HQ.out j hjx hjy W hW
        clear h4 h4' hneb HQ
        go_wp2
        refine region_inv (by kernel_rfl) (by kernel_rfl) (JEFl (.slice (some ⟨b, off, none⟩) n cap) (.slice (some ⟨b', off', none⟩) n cap') j b (off + j * 2) b' (off' + j * 2) (.agg (flC xs[j]).toArray) (.agg (flC ys[j]).toArray) (q j) (fun u0 u1 u2 u3 u4' u5' u6 u7 u8 u9 => ⟨#[.slice (some ⟨b, off, none⟩) n cap, .slice (some ⟨b', off', none⟩) n cap', undef, undef, u4, .int .i64 j, .slice (some ⟨b, off, none⟩) n cap, .int .i64 n, .slice (some ⟨b', off', none⟩) n cap', .int .i64 n, .bool false, .int .i64 j, .slice (some ⟨b, off, none⟩) n cap, .int .i64 n, .bool true, u15, u16, u0, u1, u2, u3, u4', u5', u6, u7, u8, u9], []⟩) (Below w.heap.size w)) ⟨_, _, _, _, _, _, _, _, _, _, rfl, hbr.drew, by simp, by simp, by simp, by simp, by simp, by simp, by simp, by simp, by simp, by simp⟩ ⟨?_, ?_, ?_, ?_, ?_, ?_, ?_, ?_, ?_, ?_, trivial⟩ ?_
        · rintro d A W ⟨x0, x1, x2, x3, x4, x5, x6, x7, x8, x9, rfl, I, e0, e1, e2, e3, e4, e5, e6, e7, e8, e9⟩ hn hd
          exact wp_val _ rfl ⟨_, x1, x2, x3, x4, x5, x6, x7, x8, x9, rfl, I, fun _ => rfl, e1, e2, e3, e4, e5, e6, e7, e8, e9⟩
        · rintro d A W ⟨x0, x1, x2, x3, x4, x5, x6, x7, x8, x9, rfl, I, e0, e1, e2, e3, e4, e5, e6, e7, e8, e9⟩ hn hd
          exact wp_val _ rfl ⟨x0, _, x2, x3, x4, x5, x6, x7, x8, x9, rfl, I, e0, fun _ => rfl, e2, e3, e4, e5, e6, e7, e8, e9⟩
        · rintro d A W ⟨x0, x1, x2, x3, x4, x5, x6, x7, x8, x9, rfl, I, e0, e1, e2, e3, e4, e5, e6, e7, e8, e9⟩ hn hd
          obtain rfl := e0 (hd ⟨0, .data⟩ (by simp))
          obtain rfl := e1 (hd ⟨1, .data⟩ (by simp))
          exact ixwFl _ _ rfl b off n cap j rfl rfl hlt ⟨_, _, _, x3, x4, x5, x6, x7, x8, x9, rfl, I, e0, e1, fun _ => rfl, e3, e4, e5, e6, e7, e8, e9⟩
        · rintro d A W ⟨x0, x1, x2, x3, x4, x5, x6, x7, x8, x9, rfl, I, e0, e1, e2, e3, e4, e5, e6, e7, e8, e9⟩ hn hd
          obtain rfl := e2 (hd ⟨2, .data⟩ (by simp))
          exact wp_load_mid 65 _ rfl b (off + j * 2) rfl (flC xs[j]) _ (HR.out W I) Tryd.underlying65 rfl sizeFl ⟨x0, x1, _, _, x4, x5, x6, x7, x8, x9, rfl, I, e0, e1, e2, fun _ => rfl, e4, e5, e6, e7, e8, e9⟩
        · rintro d A W ⟨x0, x1, x2, x3, x4, x5, x6, x7, x8, x9, rfl, I, e0, e1, e2, e3, e4, e5, e6, e7, e8, e9⟩ hn hd
          exact wp_val _ rfl ⟨x0, x1, x2, x3, _, x5, x6, x7, x8, x9, rfl, I, e0, e1, e2, e3, fun _ => rfl, e5, e6, e7, e8, e9⟩
        · rintro d A W ⟨x0, x1, x2, x3, x4, x5, x6, x7, x8, x9, rfl, I, e0, e1, e2, e3, e4, e5, e6, e7, e8, e9⟩ hn hd
          exact wp_val _ rfl ⟨x0, x1, x2, x3, x4, _, x6, x7, x8, x9, rfl, I, e0, e1, e2, e3, e4, fun _ => rfl, e6, e7, e8, e9⟩
        · rintro d A W ⟨x0, x1, x2, x3, x4, x5, x6, x7, x8, x9, rfl, I, e0, e1, e2, e3, e4, e5, e6, e7, e8, e9⟩ hn hd
          obtain rfl := e4 (hd ⟨4, .data⟩ (by simp))
          obtain rfl := e5 (hd ⟨5, .data⟩ (by simp))
          exact ixwFl _ _ rfl b' off' n cap' j rfl rfl hlt ⟨x0, x1, x2, x3, _, _, _, x7, x8, x9, rfl, I, e0, e1, e2, e3, e4, e5, fun _ => rfl, e7, e8, e9⟩
        · rintro d A W ⟨x0, x1, x2, x3, x4, x5, x6, x7, x8, x9, rfl, I, e0, e1, e2, e3, e4, e5, e6, e7, e8, e9⟩ hn hd
          obtain rfl := e6 (hd ⟨6, .data⟩ (by simp))
          exact wp_load_mid 65 _ rfl b' (off' + j * 2) rfl (flC ys[j]) _ (HR'.out W I) Tryd.underlying65 rfl sizeFl ⟨x0, x1, x2, x3, x4, x5, _, _, x8, x9, rfl, I, e0, e1, e2, e3, e4, e5, e6, fun _ => rfl, e8, e9⟩
        · rintro d A W ⟨x0, x1, x2, x3, x4, x5, x6, x7, x8, x9, rfl, I, e0, e1, e2, e3, e4, e5, e6, e7, e8, e9⟩ hn hd
          obtain rfl := e3 (hd ⟨3, .data⟩ (by simp))
          obtain rfl := e7 (hd ⟨7, .data⟩ (by simp))
          refine wp_call 52 #[(.agg (flC xs[j]).toArray), (.agg (flC ys[j]).toArray)] (by kernel_rfl) _ (HE.out W I) ?_
          rintro e W' ⟨rfl, hb1⟩
          exact ⟨_, rfl, x0, x1, x2, _, x4, x5, x6, _, _, x9, rfl, belowCall I hb1 I.size, e0, e1, e2, e3, e4, e5, e6, e7, fun _ => rfl, e9⟩
        · rintro d A W ⟨x0, x1, x2, x3, x4, x5, x6, x7, x8, x9, rfl, I, e0, e1, e2, e3, e4, e5, e6, e7, e8, e9⟩ hn hd
          obtain rfl := e8 (hd ⟨8, .data⟩ (by simp))
          exact wp_val _ rfl ⟨x0, x1, x2, x3, x4, x5, x6, x7, _, _, rfl, I, e0, e1, e2, e3, e4, e5, e6, e7, e8, fun _ => rfl⟩
        · rintro d A W ⟨x0, x1, x2, x3, x4, x5, x6, x7, x8, x9, rfl, I, e0, e1, e2, e3, e4, e5, e6, e7, e8, e9⟩ hd
          obtain rfl := e0 (hd 0 (by decide))
          obtain rfl := e1 (hd 1 (by decide))
          obtain rfl := e2 (hd 2 (by decide))
          obtain rfl := e3 (hd 3 (by decide))
          obtain rfl := e4 (hd 4 (by decide))
          obtain rfl := e5 (hd 5 (by decide))
          obtain rfl := e6 (hd 6 (by decide))
          obtain rfl := e7 (hd 7 (by decide))
          obtain rfl := e8 (hd 8 (by decide))
          obtain rfl := e9 (hd 9 (by decide))
          clear e0 e1 e2 e3 e4 e5 e6 e7 e8 e9 hd
          cases heq : q j with
          | false =>
            have hab : Hid (¬ ∀ j, j < n → q j = true) := fun h => by have := h j hlt; rw [heq] at this; cases this
            go_wp2
            go_ret
            exact ⟨_, rfl, ⟨fun h => (by cases h), fun h => absurd (fun j hj => h.2 j hj) hab.out⟩, I⟩
          | true =>
            go_wp2
            go_roundw
            case rel =>
              refine ⟨j + 1, by omega, by go_num, fun t ht => ?_, I⟩
              by_cases hjk : t < j
              · exact hall.out t hjk
              · obtain rfl : t = j := by omega
                exact heq
            case measure => simp [intOf]; omega
      · obtain rfl : j = n := by omega
        clear h3 h3'
        go_wp2
        go_ret
        exact ⟨_, rfl, ⟨fun _ => ⟨by trivial, hall.out⟩, fun _ => rfl⟩, hbr⟩
  · have hneb : ((xs.length : Int) != (ys.length : Int)) = true := by rw [bne_iff_ne]; omega
    have hab : Hid (¬ xs.length = ys.length) := hne
    clear hne h3 h3'
    go_enter Tryd.func21, Tryd.ntmps21
    go_wp2
    go_ret
    exact ⟨_, rfl, ⟨fun h => (by cases h), fun h => absurd h.1 hab.out⟩, Below.refl _ _⟩
theorem eqFlS_c (v v' : Value) (xs ys : List Fl) (w : World) (h : Rg 2 flC w v xs) (h' : Rg 2 flC w v' ys) :
   Calls Tryd.prog 21 #[v, v'] w fun e w' => e = .returned (.bool (decide (xs = ys))) ∧ Below w.heap.size w w' := by
  refine (eqRowFl v v' xs ys (fun j => decide (xs[j]? = ys[j]?)) w h h' ?_).mono ?_
  · intro j g1 g2 W hW
    refine (eqFl_c _ _ _ _ W).mono ?_
    rintro e w' ⟨rfl, hb⟩
    exact ⟨by simp [List.getElem?_eq_getElem g1, List.getElem?_eq_getElem g2, Prod.ext_iff], hb⟩
  · rintro e w' ⟨r, rfl, hr, hb⟩
    refine ⟨?_, hb⟩
    simp only [decide_eq_true_eq] at hr
    have : r = decide (xs = ys) := by
      rw [Bool.eq_iff_iff, hr, decide_eq_true_eq]
      constructor
      · rintro ⟨hl, ha⟩
        apply List.ext_getElem?
        intro i
        by_cases hi : i < xs.length
        · exact ha i hi
        · rw [List.getElem?_eq_none (by omega), List.getElem?_eq_none (by omega)]
      · rintro rfl; exact ⟨rfl, fun _ _ => rfl⟩
    rw [this]
def mkFl (q : Int) (i : Nat) : Fl := (q + 2 * (i : Int), q + 2 * (i : Int) + 1)
set_option maxHeartbeats 3200000 in
theorem markFlS_c (v : Value) (ls : List Fl) (q : Int) (base : Nat) (w : World) (h : Og 2 flC 65 base w v ls) (h0 : 0 ≤ q) (hq : q + 2 * ls.length ≤ 1152921504606846976) :
   Calls Tryd.prog 24 #[v, .int .i64 q] w fun e w' => e = .returned (.int .i64 (q + 2 * ls.length)) ∧ Og 2 flC 65 base w' v (mkg (mkFl q) ls.length) ∧ w.grownBy w' v.ownBlock := by
  have hh := h
  rcases h.2 with ⟨rfl, hn⟩ | ⟨g, cap, cur, rfl, hb, hg, hnc, hcm, hcs, ht⟩
  · obtain rfl : ls = [] := List.eq_nil_of_length_eq_zero hn
    clear hn h
    go_enter Tryd.func24, Tryd.ntmps24
    go_wp2
    refine wp_loop_rounds 1 ?_
    rw [rounds_succ]
    go_wp2
    go_ret
    exact ⟨by simp, by simpa [mkg] using hh, grown_refl _ _⟩
  · clear h hg hcs ht
    unfold maxLen at hcm
    go_enter Tryd.func24, Tryd.ntmps24
    go_wp2
    go_loopw [1, 5] (fun c i wr => ∃ j : Nat, j ≤ ls.length ∧ i = .int .i64 j ∧ c = .int .i64 (q + 2 * j) ∧ Hid (Og 2 flC 65 base wr (.slice (some ⟨g, 0, none⟩) ls.length cap) (mkg (mkFl q) j ++ ls.drop j)) ∧ Hid (w.grownBy wr (some g))) (fun _ i _ => ls.length - (intOf i).toNat)
    case atStart => exact ⟨0, Nat.zero_le _, rfl, by simp, (by simpa [mkg] using hh : Og 2 flC 65 base w (.slice (some ⟨g, 0, none⟩) ls.length cap) (mkg (mkFl q) 0 ++ ls.drop 0)), grown_refl _ _⟩
    case round =>
      obtain ⟨j, hj, rfl, rfl, hw, hbr⟩ := hrel
      by_cases hlt : j < ls.length
      · have hlen : (mkg (mkFl q) j ++ ls.drop j).length = ls.length := by simp [mkg_len]; omega
        have hO : Og 2 flC 65 base wr (.slice (some ⟨g, 0, none⟩) (mkg (mkFl q) j ++ ls.drop j).length cap) (mkg (mkFl q) j ++ ls.drop j) := by rw [hlen]; exact hw.out
        obtain ⟨y0, d0⟩ : ∃ u, wr.cell? ⟨g, j * 2, none⟩ = some u := ⟨_, (World.ownsRow.cellAt hO (j * 2 + 0) (by omega)).trans (fm_at flC_len (mkg (mkFl q) j ++ ls.drop j) j 0 (by omega) (by decide))⟩
        obtain ⟨y1, d1⟩ : ∃ u, wr.cell? ⟨g, j * 2 + 1, none⟩ = some u := ⟨_, (World.ownsRow.cellAt hO (j * 2 + 1) (by omega)).trans (fm_at flC_len (mkg (mkFl q) j ++ ls.drop j) j 1 (by omega) (by decide))⟩
        have f0 := World.ownsRow.frozenAt hO (j * 2)
        have f1 := World.ownsRow.frozenAt hO (j * 2 + 1)
        have hS := own_setg flC_len hO j (by omega) (mkFl q j)
        rw [mkg_set (mkFl q) ls j hlt, hlen] at hS
        have HS : Hid (Og 2 flC 65 base ((wr.setCell ⟨g, j * 2, none⟩ (.int .i64 (q + 2 * (j : Int)))).setCell ⟨g, j * 2 + 1, none⟩ (.int .i64 (q + 2 * (j : Int) + 1))) (.slice (some ⟨g, 0, none⟩) ls.length cap) (mkg (mkFl q) (j + 1) ++ ls.drop (j + 1))) := hS
        have HG : Hid (w.grownBy ((wr.setCell ⟨g, j * 2, none⟩ (.int .i64 (q + 2 * (j : Int)))).setCell ⟨g, j * 2 + 1, none⟩ (.int .i64 (q + 2 * (j : Int) + 1))) (some g)) := grown_trans hbr.out (grown_setW (flC (mkFl q j)) wr g (j * 2))
        clear hO hS hw hbr hh
        go_wp2
        go_roundw
        case rel => exact ⟨j + 1, by omega, by go_num, by go_num, HS.out, HG.out⟩
        case measure => simp [intOf]; omega
      · obtain rfl : j = ls.length := by omega
        clear hh
        go_wp2
        go_ret
        exact ⟨rfl, by have := hw.out; simpa using this, hbr.out⟩
set_option maxHeartbeats 3200000 in
theorem heldFlS_c (v : Value) (q : Int) (n : Nat) (w : World) (h : Rg 2 flC w v (mkg (mkFl q) n)) (h0 : 0 ≤ q) (hq : q + 2 * n ≤ 1152921504606846976) :
   Calls Tryd.prog 25 #[v, .int .i64 q] w fun e w' => e = .returned (.int .i64 (q + 2 * n)) ∧ Below w.heap.size w w' := by
  obtain ⟨a, cap, rfl, h1, h2, h3⟩ := h
  rw [mkg_len] at h1
  rw [mkg_len]
  unfold maxLen at h2
  go_enter Tryd.func25, Tryd.ntmps25
  go_wp2
  go_loopw [1, 5] (fun c i wr => ∃ j : Nat, j ≤ n ∧ i = .int .i64 j ∧ c = .int .i64 (q + 2 * j) ∧ Below w.heap.size w wr) (fun _ i _ => n - (intOf i).toNat)
  case atStart => exact ⟨0, Nat.zero_le _, rfl, by simp, Below.refl _ _⟩
  case round =>
    obtain ⟨j, hj, rfl, rfl, hbr⟩ := hrel
    by_cases hlt : j < n
    · rcases h3 with h3 | ⟨b, off, rfl, h4⟩
      · have := congrArg List.length h3; rw [mkg_len] at this; simp at this; omega
      have hc := h4 j (by rw [mkg_len]; exact hlt)
      rw [mkg_at] at hc
      have hcb : b < w.heap.size := block_lt_of_cell (hc 0 _ rfl)
      replace hc := rangeAt_below hc hbr hcb
      have c0 : wr.cell? ⟨b, off + j * 2, none⟩ = some (.int .i64 (q + 2 * (j : Int))) := hc 0 _ rfl
      have c1 : wr.cell? ⟨b, off + j * 2 + 1, none⟩ = some (.int .i64 (q + 2 * (j : Int) + 1)) := hc 1 _ rfl
      have e0 : (q + 2 * (j : Int) != q + 2 * (j : Int)) = false := by simp
      have e1 : (q + 2 * (j : Int) + 1 != q + 2 * (j : Int) + 1) = false := by simp
      clear h4 hc
      go_wp2
      go_roundw
      case rel => exact ⟨j + 1, by omega, by go_num, by go_num, hbr⟩
      case measure => simp [intOf]; omega
    · obtain rfl : j = n := by omega
      clear h3
      go_wp2
      go_ret
      exact ⟨rfl, hbr⟩
/-- a talk appended to a row of one's own: what is written, and where the answer lies -/
theorem appF {ops : Array Oper} {rest : List Oper} {o : Oper} {a : Act} {w : World} {Q : Exit → Act → World → Prop} (hgd : o.guard = none) (s x : Operand)
    (ho : o.op = .call { callee := .builtin .append, args := #[s, x], argTypes := #[31, 31] }) (base : Nat) (v : Value) (ts : List Fl) (hs : a.eval s = v) (hown : Og 2 flC 65 base w v ts)
    (g : Nat) (t : Fl) (hx : a.eval x = .slice (some ⟨g, 0, none⟩) 1 1) (hc : Blk w g #[.int .i64 t.1, .int .i64 t.2] 65) (hl : ts.length ≤ 1000) (hbase : base ≤ w.heap.size)
    (h : ∀ v' w', Og 2 flC 65 base w' v' (ts ++ [t]) → w.grownBy w' v.ownBlock → (v'.ownBlock = v.ownBlock ∨ v'.ownBlock = some w.heap.size) → wpList Tryd.prog ops Q rest (a.put o.dst v') w') : wpList Tryd.prog ops Q (o :: rest) a w := by
  obtain ⟨i0, hi, hz0, hz1, hz2⟩ := info_parts infoFl
  refine wpList_append_own_at (w := w) hgd s x 31 ho base 65 i0 (.agg #[.int .i64 0, .int .i64 0]) 2 16 Tryd.underlying31 hi hz0 hz1 hz2 rfl (by decide) v ts.length (ts.flatMap flC) hs hown ⟨g, 0, none⟩ 1 1 [.int .i64 t.1, .int .i64 t.2] hx rfl ?_ ?_ ?_ ?_ hbase ?_
  · intro j u hj
    have c0 := hc.cell 0
    have c1 := hc.cell 1
    simp at c0 c1
    match j, hj with
    | 0, hj => simp at hj; subst hj; simpa [Addr.add] using c0
    | 1, hj => simp at hj; subst hj; simpa [Addr.add] using c1
  · intro u hu
    simp at hu
    rcases hu with rfl | rfl <;> rfl
  · unfold maxLen; omega
  · omega
  · intro v' w' h1 h2 h3 h4
    refine h v' w' ?_ h2 h4
    rw [Og, List.length_append, List.flatMap_append]
    simpa using h1
theorem appFs {ops : Array Oper} {rest : List Oper} {o : Oper} {a : Act} {w : World} {Q : Exit → Act → World → Prop} (hgd : o.guard = none) (s x : Operand)
    (ho : o.op = .call { callee := .builtin .append, args := #[s, x], argTypes := #[31, 31] }) (base : Nat) (v : Value) (l0 : List Fl) (hs : a.eval s = v) (hown : Og 2 flC 65 base w v l0)
    (v2 : Value) (ls : List Fl) (hx : a.eval x = v2) (hr : Rg 2 flC w v2 ls) (hl : l0.length + ls.length ≤ 1099511627776) (hbase : base ≤ w.heap.size)
    (h : ∀ v' w', Og 2 flC 65 base w' v' (l0 ++ ls) → w.grownBy w' v.ownBlock → (v'.ownBlock = v.ownBlock ∨ v'.ownBlock = some w.heap.size) → wpList Tryd.prog ops Q rest (a.put o.dst v') w') : wpList Tryd.prog ops Q (o :: rest) a w := by
  obtain ⟨i0, hi, hz0, hz1, hz2⟩ := info_parts infoFl
  obtain ⟨av, cap, rfl, h1, h2, h3⟩ := hr
  by_cases hav : av = none
  · subst hav
    have hl0 : ls = [] := by
      rcases h3 with h3 | ⟨b, off, e, -⟩
      · exact h3
      · cases e
    subst hl0
    refine wpList_plain hgd fun K hK => ?_
    have hx' : a.eval x = .slice none 0 cap := hx
    obtain ⟨v', w', hr, q1, q2, q3⟩ : ∃ v' w', (Builtin.append_ #[31, 31] o.type #[v, .slice none 0 cap]).run Tryd.prog w = .ok v' w' ∧ Og 2 flC 65 base w' v' (l0 ++ []) ∧ w.grownBy w' v.ownBlock ∧ (v'.ownBlock = v.ownBlock ∨ v'.ownBlock = some w.heap.size) := by
      refine ⟨v, w, ?_, by simpa using hown, grown_refl _ _, .inl rfl⟩
      rcases hown.2 with ⟨rfl, h0⟩ | ⟨g, cp, cur, rfl, _, _, hnc, _⟩
      · simp [Builtin.append_, run_underlying Tryd.underlying31, sizeOf, typeInfo, hi, Builtin.lenOf, Builtin.firstCells]
      · simp [Builtin.append_, run_underlying Tryd.underlying31, sizeOf, typeInfo, hi, Builtin.lenOf, Builtin.firstCells, hnc, storeCells]
    unfold Oper.wp execOp
    simp only [ho, resolve, invoke, builtin, Sem.run_bind, Sem.run_pure, Result.andThen_ok, List.map_toArray, List.map_cons, List.map_nil, hs, hx', hr]
    exact hK _ _ (h v' w' q1 q2 q3)
  · obtain ⟨ad, rfl⟩ : ∃ ad, av = some ad := by cases av with | none => exact absurd rfl hav | some ad => exact ⟨ad, rfl⟩
    refine wpList_append_own_at w hgd s x 31 ho base 65 i0 (.agg #[.int .i64 0, .int .i64 0]) 2 16 Tryd.underlying31 hi hz0 hz1 hz2 rfl (by decide) v l0.length (l0.flatMap flC) hs hown ad ls.length cap (ls.flatMap flC) hx (fm_len flC_len ls) ?_ flC_one ?_ ?_ hbase ?_
    · rcases h3 with rfl | ⟨b, off, e, h4⟩
      · intro j u hu; simp at hu
      · cases e
        exact fm_news flC_len h4
    · unfold maxLen; omega
    · omega
    · intro v' w' g1 g2 g3 g4
      refine h v' w' ?_ g2 g4
      rw [Og, List.flatMap_append, List.length_append]; exact g1

end Go.Proofs.YtmfmlbiplagmiaaDoor
