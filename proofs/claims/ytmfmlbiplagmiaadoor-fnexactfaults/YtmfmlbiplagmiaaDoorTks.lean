/- Rows of talks; no condition. -/
import Derived.Test.YtmfmlbiplagmiaaDoorFlt
import Derived.Test.YtmfmlbiplagmiaaDoorDet
import Derived.Test.YtmfmlbiplagmiaaDoorApp
namespace Go.Proofs.YtmfmlbiplagmiaaDoor
open Go.RowKit Go.ChangeShapes Go.WideShapes Go.ChangeAt
set_option linter.unusedVariables false
set_option linter.unusedSimpArgs false
set_option maxRecDepth 8000
abbrev Tk := Int × Int × Int
abbrev tkC : Tk → List Value := fun x => [.int .i64 x.1, .int .i64 x.2.1, .int .i64 x.2.2]
theorem tkC_len (x : Tk) : (tkC x).length = 3 := rfl
theorem sizeTk : (Tryd.prog.info? 38).map (·.size) = some 3 := by kernel_rfl
theorem infoTk : (Tryd.prog.info? 38).map (fun i => (i.zero, i.size, i.bytes)) = some (some (.agg #[.int .i64 0, .int .i64 0, .int .i64 0]), 3, 24) := by kernel_rfl
theorem tkC_one {ls : List Tk} : ∀ u ∈ ls.flatMap tkC, u.oneCell' = true := by
  intro u hu
  obtain ⟨x, -, hx⟩ := List.mem_flatMap.1 hu
  simp only [tkC, List.mem_cons, List.not_mem_nil, or_false] at hx
  rcases hx with rfl | rfl | rfl <;> rfl
set_option maxHeartbeats 1600000 in
theorem toTk_c (x0 x1 x2 : Int) (w : World) : Calls Tryd.prog 26 #[.agg #[.int .i64 x0, .int .i64 x1, .int .i64 x2]] w fun e w' => e = .returned (.agg #[.int .i64 x0, .int .i64 x1, .int .i64 x2]) ∧ Below w.heap.size w w' := by
  go_enter Tryd.func26, Tryd.ntmps26
  go_wp2
  have h1 : ((((w.alloc (Obj.cells #[.int .i64 x0, .int .i64 x1, .int .i64 x2] 52)).alloc (Obj.cells #[.int .i64 x0, .int .i64 x1, .int .i64 x2] 38)).alloc (Obj.cells #[.int .i64 x0, .int .i64 x1, .int .i64 x2] 38))).heap[w.heap.size + 1]? = some (.cells #[.int .i64 x0, .int .i64 x1, .int .i64 x2] 38 (0, 0)) :=
    ((Blk.newAt _ (w.heap.size + 1) _ 38 (by simp)).alloc _ : Blk _ _ _ _)
  exact bodyPost_ret (v := .agg #[.int .i64 x0, .int .i64 x1, .int .i64 x2]) (results_cell_row rfl _ _ _ 38 _ (0, 0) _ rfl h1 Tryd.underlying38 rfl sizeTk) rfl ⟨rfl, (((Below.refl _ _).alloc (Nat.le_refl _) _).alloc (by simp) _).alloc (by simp; omega) _⟩
set_option maxHeartbeats 3200000 in
theorem toTkS_c (v : Value) (ls : List Tk) (w : World) (h : Rg 3 tkC w v ls) (hn : ls.length ≤ 1048576) :
   Calls Tryd.prog 50 #[v] w fun e w' => ∃ v', e = .returned v' ∧ Og 3 tkC 38 w.heap.size w' v' ls ∧ Below w.heap.size w w' := by
  obtain ⟨a, cap, rfl, h1, h2, h3⟩ := h
  unfold maxLen at h2
  obtain ⟨i0, hi, hz0, hz1, hz2⟩ := info_parts infoTk
  go_enter Tryd.func50, Tryd.ntmps50
  go_wp2_with (at_make; refine wpList_make_full _ rfl _ _ 24 rfl w.heap.size 38 i0 (.agg #[.int .i64 0, .int .i64 0, .int .i64 0]) 3 Tryd.underlying24 hi hz0 hz1 .i64 .i64 _ _ ls.length rfl rfl rfl rfl (by rw [hz2]; omega) (by unfold maxLen; omega) (Nat.le_refl _) ?_)
  intro w1 ho hg
  have hx : w1.ownsRow w.heap.size 38 3 (.slice (some ⟨w.heap.size, 0, none⟩) ls.length ls.length) ls.length ((filg ((0, 0, 0) : Tk) ls 0).flatMap tkC) := by
    have e : (filg ((0, 0, 0) : Tk) ls 0).flatMap tkC = (madeCells #[.int .i64 0, .int .i64 0, .int .i64 0] (ls.length * 3)).toList := by rw [fm_rep tkC_len (by decide) ((0, 0, 0) : Tk) _ rfl ls.length]; simp [filg]
    rw [e]; exact ho
  have hb : Below w.heap.size w w1 := grown_below hg (Nat.le_refl _) (by simp)
  clear hg ho
  go_wp2
  go_loopw [4] (fun i wr => ∃ j : Nat, j ≤ ls.length ∧ i = .int .i64 j ∧ wr.ownsRow w.heap.size 38 3 (.slice (some ⟨w.heap.size, 0, none⟩) ls.length ls.length) ls.length ((filg ((0, 0, 0) : Tk) ls j).flatMap tkC) ∧ Below w.heap.size w wr) (fun i _ => ls.length - (intOf i).toNat)
  case atStart => exact ⟨0, Nat.zero_le _, rfl, hx, hb⟩
  case round =>
    obtain ⟨j, hj, rfl, hw, hbr⟩ := hrel
    clear hx hb
    by_cases hlt : j < ls.length
    · rcases h3 with h3 | ⟨b, off, rfl, h4⟩
      · subst h3; simp at hlt
      have hcb : b < w.heap.size := block_lt_of_cell (h4 j hlt 0 _ rfl)
      have hc := rangeAt_below (h4 j hlt) hbr hcb
      have hc0 : wr.cell? ⟨b, off + j * 3, none⟩ = some (.int .i64 ls[j].1) := hc 0 _ rfl
      have hc1 : wr.cell? ⟨b, off + j * 3 + 1, none⟩ = some (.int .i64 ls[j].2.1) := hc 1 _ rfl
      have hc2 : wr.cell? ⟨b, off + j * 3 + 2, none⟩ = some (.int .i64 ls[j].2.2) := hc 2 _ rfl
      clear h4 hc
      go_wp2_with (fail)
      refine (toTk_c _ _ _ _).mono ?_
      rintro e w2 ⟨rfl, b2⟩
      have hw2 : w2.ownsRow w.heap.size 38 3 (.slice (some ⟨w.heap.size, 0, none⟩) ls.length ls.length) ls.length ((filg ((0, 0, 0) : Tk) ls j).flatMap tkC) := World.ownsRow.kept (row := none) hw ⟨b2.os, b2.tape, b2.output, b2.size, fun i hi _ => b2.block i hi⟩ (by simp [Value.ownBlock])
      have c2 := belowCall hbr b2 hbr.size
      have hfl := filg_len ((0, 0, 0) : Tk) ls j hj
      have hO : Og 3 tkC 38 w.heap.size w2 (.slice (some ⟨w.heap.size, 0, none⟩) (filg ((0, 0, 0) : Tk) ls j).length ls.length) (filg ((0, 0, 0) : Tk) ls j) := by rw [Og, hfl]; exact hw2
      obtain ⟨y0, hd0⟩ : ∃ u, w2.cell? ⟨w.heap.size, j * 3, none⟩ = some u := ⟨_, (hw2.cellAt (j * 3 + 0) (by omega)).trans (fm_at tkC_len (filg ((0, 0, 0) : Tk) ls j) j 0 (by omega) (by decide))⟩
      obtain ⟨y1, hd1⟩ : ∃ u, w2.cell? ⟨w.heap.size, j * 3 + 1, none⟩ = some u := ⟨_, (hw2.cellAt (j * 3 + 1) (by omega)).trans (fm_at tkC_len (filg ((0, 0, 0) : Tk) ls j) j 1 (by omega) (by decide))⟩
      obtain ⟨y2, hd2⟩ : ∃ u, w2.cell? ⟨w.heap.size, j * 3 + 2, none⟩ = some u := ⟨_, (hw2.cellAt (j * 3 + 2) (by omega)).trans (fm_at tkC_len (filg ((0, 0, 0) : Tk) ls j) j 2 (by omega) (by decide))⟩
      have hf0 := hw2.frozenAt (j * 3)
      have hf1 := hw2.frozenAt (j * 3 + 1)
      have hf2 := hw2.frozenAt (j * 3 + 2)
      have hS := own_setg tkC_len hO j (by omega) ls[j]
      rw [filg_set, Og, hfl, filg_len _ _ _ (by omega)] at hS
      have c3 := below_setW c2 w.heap.size (j * 3) (Nat.le_refl _) (tkC ls[j])
      simp only [setW, Nat.add_assoc, Nat.reduceAdd] at hS c3
      have HS : Hid _ := hS
      have HC : Hid _ := c3
      clear hw hbr hw2 c2 b2 hO hS c3 hfl
      go_wp2
      go_roundw
      case rel => exact ⟨j + 1, by omega, by go_num, HS.out, HC.out⟩
      case measure => simp [intOf]; omega
    · obtain rfl : j = ls.length := by omega
      rw [filg_full] at hw
      clear h3
      go_wp2
      go_ret
      exact ⟨_, rfl, hw, hbr⟩
theorem szTkS_c (v : Value) (ls : List Tk) (left : Int) (w : World) (h : Rg 3 tkC w v ls) (h0 : 0 ≤ left) (hl : left ≤ 1048576) :
    Calls Tryd.prog 48 #[v, .int .i64 left] w fun e w' => e = .returned (.int .i64 (if left < ls.length then -1 else left - ls.length)) ∧ w' = w := by
  obtain ⟨a, cap, rfl, h1, h2, -⟩ := h
  unfold maxLen at h2
  by_cases hlt : left < (ls.length : Int)
  · have g : left - (ls.length : Int) < 0 := by omega
    rw [if_pos hlt]
    clear hlt
    go_enter Tryd.func48, Tryd.ntmps48
    go_wp2
    go_ret
    exact ⟨rfl, rfl⟩
  · have g : ¬ left - (ls.length : Int) < 0 := by omega
    rw [if_neg hlt]
    clear hlt
    go_enter Tryd.func48, Tryd.ntmps48
    go_wp2
    go_ret
    exact ⟨rfl, rfl⟩
set_option maxHeartbeats 1600000 in
theorem eqTk_c (x0 x1 x2 y0 y1 y2 : Int) (w : World) : Calls Tryd.prog 77 #[.agg #[.int .i64 x0, .int .i64 x1, .int .i64 x2], .agg #[.int .i64 y0, .int .i64 y1, .int .i64 y2]] w fun e w' => e = .returned (.bool (decide ((x0, x1, x2) = (y0, y1, y2)))) ∧ Below w.heap.size w w' := by
  have HB : Hid (Below w.heap.size w ((w.alloc (Obj.cells #[.int .i64 x0, .int .i64 x1, .int .i64 x2] 38)).alloc (Obj.cells #[.int .i64 y0, .int .i64 y1, .int .i64 y2] 38))) := ((Below.refl _ _).alloc (Nat.le_refl _) _).alloc (by simp) _
  go_enter Tryd.func77, Tryd.ntmps77
  go_wp2
  all_goals
    go_ret
    refine ⟨?_, HB.out⟩
    simp_all
theorem ixTk (b off n cap j : Nat) (hj : j < n) (W : World) : (Instr.indexAt 24 (.slice (some ⟨b, off, none⟩) n cap) (.int .i64 (j : Int))).run Tryd.prog W = .ok (.pointer (some ⟨b, off + j * 3, none⟩)) W := by
  have hs : (sizeOf 38).run Tryd.prog W = .ok 3 W := by simp [sizeOf, typeInfo, Sem.run_bind]; cases hq : Tryd.prog.info? 38 with
    | none => have := sizeTk; rw [hq] at this; cases this
    | some i => have := sizeTk; rw [hq] at this; simp at this; simp [this]
  have hji : (j : Int) < (n : Int) := by omega
  have hn : ¬ n ≤ j := by omega
  have hadd : (⟨b, off, none⟩ : Addr).add (j * 3) = ⟨b, off + j * 3, none⟩ := by unfold Addr.add; split <;> simp_all
  simp [Instr.indexAt, asIntOf, run_underlying Tryd.underlying24, hji, hs, hadd, hn]
theorem ixwTk {o : Oper} {a : Act} {w : World} {K : Act → World → Prop} {Q : Exit → Act → World → Prop} (x y : Operand) (ho : o.op = .indexAddr 24 x y) (b off n cap j : Nat) (hx : a.eval x = .slice (some ⟨b, off, none⟩) n cap) (hy : a.eval y = .int .i64 (j : Int)) (hj : j < n)
    (h : K (a.put o.dst (.pointer (some ⟨b, off + j * 3, none⟩))) w) : o.wp Tryd.prog a w K Q :=
  wp_val _ (by simp only [execOp, ho, hx, hy, Sem.run_bind, ixTk b off n cap j hj, Result.andThen_ok, Sem.run_pure]) h
/-- two elements are taken and compared, in whatever order -/
def JETk (v v' : Value) (j : Nat) (b o b' o' : Nat) (x y : Value) (q : Bool) (U : Value → Value → Value → Value → Value → Value → Value → Value → Value → Value → Act) (S : World → Prop) (d : Nat → Bool) (A : Act) (W : World) : Prop :=
  ∃ u0 u1 u2 u3 u4 u5 u6 u7 u8 u9 : Value, A = U u0 u1 u2 u3 u4 u5 u6 u7 u8 u9 ∧ S W ∧ (d 0 = true → u0 = v) ∧ (d 1 = true → u1 = .int .i64 j) ∧ (d 2 = true → u2 = .pointer (some ⟨b, o, none⟩)) ∧ (d 3 = true → u3 = x) ∧
    (d 4 = true → u4 = v') ∧ (d 5 = true → u5 = .int .i64 j) ∧ (d 6 = true → u6 = .pointer (some ⟨b', o', none⟩)) ∧ (d 7 = true → u7 = y) ∧ (d 8 = true → u8 = .bool q) ∧ (d 9 = true → u9 = .bool !q)
set_option maxHeartbeats 3200000 in
theorem eqRowTk (v v' : Value) (xs ys : List Tk) (q : Nat → Bool) (w : World) (h : Rg 3 tkC w v xs) (h' : Rg 3 tkC w v' ys)
    (hq : ∀ j (h1 : j < xs.length) (h2 : j < ys.length) W, Below w.heap.size w W → Calls Tryd.prog 77 #[(.agg (tkC xs[j]).toArray), (.agg (tkC ys[j]).toArray)] W fun e w' => e = .returned (.bool (q j)) ∧ Below W.heap.size W w') :
   Calls Tryd.prog 53 #[v, v'] w fun e w' => ∃ r, e = .returned (.bool r) ∧ (r = true ↔ xs.length = ys.length ∧ ∀ j, j < xs.length → q j = true) ∧ Below w.heap.size w w' := by
  obtain ⟨a, cap, rfl, h1, h2, h3⟩ := h
  obtain ⟨a', cap', rfl, h1', h2', h3'⟩ := h'
  unfold maxLen at h2 h2'
  have HQ : Hid (∀ j (h1 : j < xs.length) (h2 : j < ys.length) W, Below w.heap.size w W → Calls Tryd.prog 77 #[(.agg (tkC xs[j]).toArray), (.agg (tkC ys[j]).toArray)] W fun e w' => e = .returned (.bool (q j)) ∧ Below W.heap.size W w') := hq
  clear hq
  by_cases hne : xs.length = ys.length
  · obtain ⟨n, hnx⟩ : ∃ n, xs.length = n := ⟨_, rfl⟩
    have hny : ys.length = n := by omega
    have HX : Hid (xs.length = n) := hnx
    have HY : Hid (ys.length = n) := hny
    rw [hnx] at h1
    rw [hny] at h1'
    rw [hnx, hny]
    have hneb : ((n : Int) != (n : Int)) = false := by simp
    clear hne hnx hny
    go_enter Tryd.func53, Tryd.ntmps53
    go_wp2
    go_loopw [5] (fun i wr => ∃ j : Nat, j ≤ n ∧ i = .int .i64 j ∧ Hid (∀ t, t < j → q t = true) ∧ Below w.heap.size w wr) (fun i _ => n - (intOf i).toNat)
    case atStart => exact ⟨0, Nat.zero_le _, rfl, fun t ht => by omega, Below.refl _ _⟩
    case round =>
      obtain ⟨j, hj, rfl, hall, hbr⟩ := hrel
      by_cases hlt : j < n
      · have hjx : j < xs.length := by have h := HX.out; omega
        have hjy : j < ys.length := by have h := HY.out; omega
        rcases h3 with h3 | ⟨b, off, rfl, h4⟩
        · subst h3; simp at hjx
        rcases h3' with h3' | ⟨b', off', rfl, h4'⟩
        · subst h3'; simp at hjy
        have HR : Hid (∀ W, Below w.heap.size w W → W.rangeAt b (off + j * 3) (tkC xs[j])) := fun W hW => rangeAt_below (h4 j hjx) hW (block_lt_of_cell (h4 j hjx 0 _ rfl))
        have HR' : Hid (∀ W, Below w.heap.size w W → W.rangeAt b' (off' + j * 3) (tkC ys[j])) := fun W hW => rangeAt_below (h4' j hjy) hW (block_lt_of_cell (h4' j hjy 0 _ rfl))
        have HE : Hid (∀ W, Below w.heap.size w W → Calls Tryd.prog 77 #[(.agg (tkC xs[j]).toArray), (.agg (tkC ys[j]).toArray)] W fun e w' => e = .returned (.bool (q j)) ∧ Below W.heap.size W w') := fun W hW => HQ.out j hjx hjy W hW
        clear h4 h4' hneb HQ
        go_wp2
        refine region_inv (by kernel_rfl) (by kernel_rfl) (JETk (.slice (some ⟨b, off, none⟩) n cap) (.slice (some ⟨b', off', none⟩) n cap') j b (off + j * 3) b' (off' + j * 3) (.agg (tkC xs[j]).toArray) (.agg (tkC ys[j]).toArray) (q j) (fun u0 u1 u2 u3 u4' u5' u6 u7 u8 u9 => ⟨#[.slice (some ⟨b, off, none⟩) n cap, .slice (some ⟨b', off', none⟩) n cap', undef, undef, u4, .int .i64 j, .slice (some ⟨b, off, none⟩) n cap, .int .i64 n, .slice (some ⟨b', off', none⟩) n cap', .int .i64 n, .bool false, .int .i64 j, .slice (some ⟨b, off, none⟩) n cap, .int .i64 n, .bool true, u15, u16, u0, u1, u2, u3, u4', u5', u6, u7, u8, u9], []⟩) (Below w.heap.size w)) ⟨_, _, _, _, _, _, _, _, _, _, rfl, hbr.drew, by simp, by simp, by simp, by simp, by simp, by simp, by simp, by simp, by simp, by simp⟩ ⟨?_, ?_, ?_, ?_, ?_, ?_, ?_, ?_, ?_, ?_, trivial⟩ ?_
        · rintro d A W ⟨x0, x1, x2, x3, x4, x5, x6, x7, x8, x9, rfl, I, e0, e1, e2, e3, e4, e5, e6, e7, e8, e9⟩ hn hd
          exact wp_val _ rfl ⟨_, x1, x2, x3, x4, x5, x6, x7, x8, x9, rfl, I, fun _ => rfl, e1, e2, e3, e4, e5, e6, e7, e8, e9⟩
        · rintro d A W ⟨x0, x1, x2, x3, x4, x5, x6, x7, x8, x9, rfl, I, e0, e1, e2, e3, e4, e5, e6, e7, e8, e9⟩ hn hd
          exact wp_val _ rfl ⟨x0, _, x2, x3, x4, x5, x6, x7, x8, x9, rfl, I, e0, fun _ => rfl, e2, e3, e4, e5, e6, e7, e8, e9⟩
        · rintro d A W ⟨x0, x1, x2, x3, x4, x5, x6, x7, x8, x9, rfl, I, e0, e1, e2, e3, e4, e5, e6, e7, e8, e9⟩ hn hd
          obtain rfl := e0 (hd ⟨0, .data⟩ (by simp))
          obtain rfl := e1 (hd ⟨1, .data⟩ (by simp))
          exact ixwTk _ _ rfl b off n cap j rfl rfl hlt ⟨_, _, _, x3, x4, x5, x6, x7, x8, x9, rfl, I, e0, e1, fun _ => rfl, e3, e4, e5, e6, e7, e8, e9⟩
        · rintro d A W ⟨x0, x1, x2, x3, x4, x5, x6, x7, x8, x9, rfl, I, e0, e1, e2, e3, e4, e5, e6, e7, e8, e9⟩ hn hd
          obtain rfl := e2 (hd ⟨2, .data⟩ (by simp))
          exact wp_load_mid 38 _ rfl b (off + j * 3) rfl (tkC xs[j]) _ (HR.out W I) Tryd.underlying38 rfl sizeTk ⟨x0, x1, _, _, x4, x5, x6, x7, x8, x9, rfl, I, e0, e1, e2, fun _ => rfl, e4, e5, e6, e7, e8, e9⟩
        · rintro d A W ⟨x0, x1, x2, x3, x4, x5, x6, x7, x8, x9, rfl, I, e0, e1, e2, e3, e4, e5, e6, e7, e8, e9⟩ hn hd
          exact wp_val _ rfl ⟨x0, x1, x2, x3, _, x5, x6, x7, x8, x9, rfl, I, e0, e1, e2, e3, fun _ => rfl, e5, e6, e7, e8, e9⟩
        · rintro d A W ⟨x0, x1, x2, x3, x4, x5, x6, x7, x8, x9, rfl, I, e0, e1, e2, e3, e4, e5, e6, e7, e8, e9⟩ hn hd
          exact wp_val _ rfl ⟨x0, x1, x2, x3, x4, _, x6, x7, x8, x9, rfl, I, e0, e1, e2, e3, e4, fun _ => rfl, e6, e7, e8, e9⟩
        · rintro d A W ⟨x0, x1, x2, x3, x4, x5, x6, x7, x8, x9, rfl, I, e0, e1, e2, e3, e4, e5, e6, e7, e8, e9⟩ hn hd
          obtain rfl := e4 (hd ⟨4, .data⟩ (by simp))
          obtain rfl := e5 (hd ⟨5, .data⟩ (by simp))
          exact ixwTk _ _ rfl b' off' n cap' j rfl rfl hlt ⟨x0, x1, x2, x3, _, _, _, x7, x8, x9, rfl, I, e0, e1, e2, e3, e4, e5, fun _ => rfl, e7, e8, e9⟩
        · rintro d A W ⟨x0, x1, x2, x3, x4, x5, x6, x7, x8, x9, rfl, I, e0, e1, e2, e3, e4, e5, e6, e7, e8, e9⟩ hn hd
          obtain rfl := e6 (hd ⟨6, .data⟩ (by simp))
          exact wp_load_mid 38 _ rfl b' (off' + j * 3) rfl (tkC ys[j]) _ (HR'.out W I) Tryd.underlying38 rfl sizeTk ⟨x0, x1, x2, x3, x4, x5, _, _, x8, x9, rfl, I, e0, e1, e2, e3, e4, e5, e6, fun _ => rfl, e8, e9⟩
        · rintro d A W ⟨x0, x1, x2, x3, x4, x5, x6, x7, x8, x9, rfl, I, e0, e1, e2, e3, e4, e5, e6, e7, e8, e9⟩ hn hd
          obtain rfl := e3 (hd ⟨3, .data⟩ (by simp))
          obtain rfl := e7 (hd ⟨7, .data⟩ (by simp))
          refine wp_call 77 #[(.agg (tkC xs[j]).toArray), (.agg (tkC ys[j]).toArray)] (by kernel_rfl) _ (HE.out W I) ?_
          rintro e W' ⟨rfl, hb1⟩
          exact ⟨_, rfl, x0, x1, x2, _, x4, x5, x6, _, _, x9, rfl, belowCall I hb1 I.size, e0, e1, e2, e3, e4, e5, e6, e7, fun _ => rfl, e9⟩
        · rintro d A W ⟨x0, x1, x2, x3, x4, x5, x6, x7, x8, x9, rfl, I, e0, e1, e2, e3, e4, e5, e6, e7, e8, e9⟩ hn hd
          obtain rfl := e8 (hd ⟨8, .data⟩ (by simp))
          exact wp_val _ rfl ⟨x0, x1, x2, x3, x4, x5, x6, x7, _, _, rfl, I, e0, e1, e2, e3, e4, e5, e6, e7, e8, fun _ => rfl⟩
        · rintro d A W ⟨x0, x1, x2, x3, x4, x5, x6, x7, x8, x9, rfl, I, e0, e1, e2, e3, e4, e5, e6, e7, e8, e9⟩ hd
          obtain rfl := e0 (hd 0 (by decide))
          obtain rfl := e1 (hd 1 (by decide))
          obtain rfl := e2 (hd 2 (by decide))
          obtain rfl := e3 (hd 3 (by decide))
          obtain rfl := e4 (hd 4 (by decide))
          obtain rfl := e5 (hd 5 (by decide))
          obtain rfl := e6 (hd 6 (by decide))
          obtain rfl := e7 (hd 7 (by decide))
          obtain rfl := e8 (hd 8 (by decide))
          obtain rfl := e9 (hd 9 (by decide))
          clear e0 e1 e2 e3 e4 e5 e6 e7 e8 e9 hd
          cases heq : q j with
          | false =>
            have hab : Hid (¬ ∀ j, j < n → q j = true) := fun h => by have := h j hlt; rw [heq] at this; cases this
            go_wp2
            go_ret
            exact ⟨_, rfl, ⟨fun h => (by cases h), fun h => absurd (fun j hj => h.2 j hj) hab.out⟩, I⟩
          | true =>
            go_wp2
            go_roundw
            case rel =>
              refine ⟨j + 1, by omega, by go_num, fun t ht => ?_, I⟩
              by_cases hjk : t < j
              · exact hall.out t hjk
              · obtain rfl : t = j := by omega
                exact heq
            case measure => simp [intOf]; omega
      · obtain rfl : j = n := by omega
        clear h3 h3'
        go_wp2
        go_ret
        exact ⟨_, rfl, ⟨fun _ => ⟨by trivial, hall.out⟩, fun _ => rfl⟩, hbr⟩
  · have hneb : ((xs.length : Int) != (ys.length : Int)) = true := by rw [bne_iff_ne]; omega
    have hab : Hid (¬ xs.length = ys.length) := hne
    clear hne h3 h3'
    go_enter Tryd.func53, Tryd.ntmps53
    go_wp2
    go_ret
    exact ⟨_, rfl, ⟨fun h => (by cases h), fun h => absurd h.1 hab.out⟩, Below.refl _ _⟩
theorem eqTkS_c (v v' : Value) (xs ys : List Tk) (w : World) (h : Rg 3 tkC w v xs) (h' : Rg 3 tkC w v' ys) :
   Calls Tryd.prog 53 #[v, v'] w fun e w' => e = .returned (.bool (decide (xs = ys))) ∧ Below w.heap.size w w' := by
  refine (eqRowTk v v' xs ys (fun j => decide (xs[j]? = ys[j]?)) w h h' ?_).mono ?_
  · intro j g1 g2 W hW
    refine (eqTk_c _ _ _ _ _ _ W).mono ?_
    rintro e w' ⟨rfl, hb⟩
    exact ⟨by simp [List.getElem?_eq_getElem g1, List.getElem?_eq_getElem g2, Prod.ext_iff], hb⟩
  · rintro e w' ⟨r, rfl, hr, hb⟩
    refine ⟨?_, hb⟩
    simp only [decide_eq_true_eq] at hr
    have : r = decide (xs = ys) := by
      rw [Bool.eq_iff_iff, hr, decide_eq_true_eq]
      constructor
      · rintro ⟨hl, ha⟩
        apply List.ext_getElem?
        intro i
        by_cases hi : i < xs.length
        · exact ha i hi
        · rw [List.getElem?_eq_none (by omega), List.getElem?_eq_none (by omega)]
      · rintro rfl; exact ⟨rfl, fun _ _ => rfl⟩
    rw [this]
def mkTk (q : Int) (i : Nat) : Tk := (q + 3 * (i : Int), q + 3 * (i : Int) + 1, q + 3 * (i : Int) + 1 + 1)
set_option maxHeartbeats 3200000 in
theorem markTkS_c (v : Value) (ls : List Tk) (q : Int) (base : Nat) (w : World) (h : Og 3 tkC 38 base w v ls) (h0 : 0 ≤ q) (hq : q + 3 * ls.length ≤ 1152921504606846976) :
   Calls Tryd.prog 55 #[v, .int .i64 q] w fun e w' => e = .returned (.int .i64 (q + 3 * ls.length)) ∧ Og 3 tkC 38 base w' v (mkg (mkTk q) ls.length) ∧ w.grownBy w' v.ownBlock := by
  have hh := h
  rcases h.2 with ⟨rfl, hn⟩ | ⟨g, cap, cur, rfl, hb, hg, hnc, hcm, hcs, ht⟩
  · obtain rfl : ls = [] := List.eq_nil_of_length_eq_zero hn
    clear hn h
    go_enter Tryd.func55, Tryd.ntmps55
    go_wp2
    refine wp_loop_rounds 1 ?_
    rw [rounds_succ]
    go_wp2
    go_ret
    exact ⟨by simp, by simpa [mkg] using hh, grown_refl _ _⟩
  · clear h hg hcs ht
    unfold maxLen at hcm
    go_enter Tryd.func55, Tryd.ntmps55
    go_wp2
    go_loopw [1, 5] (fun c i wr => ∃ j : Nat, j ≤ ls.length ∧ i = .int .i64 j ∧ c = .int .i64 (q + 3 * j) ∧ Hid (Og 3 tkC 38 base wr (.slice (some ⟨g, 0, none⟩) ls.length cap) (mkg (mkTk q) j ++ ls.drop j)) ∧ Hid (w.grownBy wr (some g))) (fun _ i _ => ls.length - (intOf i).toNat)
    case atStart => exact ⟨0, Nat.zero_le _, rfl, by simp, (by simpa [mkg] using hh : Og 3 tkC 38 base w (.slice (some ⟨g, 0, none⟩) ls.length cap) (mkg (mkTk q) 0 ++ ls.drop 0)), grown_refl _ _⟩
    case round =>
      obtain ⟨j, hj, rfl, rfl, hw, hbr⟩ := hrel
      by_cases hlt : j < ls.length
      · have hlen : (mkg (mkTk q) j ++ ls.drop j).length = ls.length := by simp [mkg_len]; omega
        have hO : Og 3 tkC 38 base wr (.slice (some ⟨g, 0, none⟩) (mkg (mkTk q) j ++ ls.drop j).length cap) (mkg (mkTk q) j ++ ls.drop j) := by rw [hlen]; exact hw.out
        obtain ⟨y0, d0⟩ : ∃ u, wr.cell? ⟨g, j * 3, none⟩ = some u := ⟨_, (World.ownsRow.cellAt hO (j * 3 + 0) (by omega)).trans (fm_at tkC_len (mkg (mkTk q) j ++ ls.drop j) j 0 (by omega) (by decide))⟩
        obtain ⟨y1, d1⟩ : ∃ u, wr.cell? ⟨g, j * 3 + 1, none⟩ = some u := ⟨_, (World.ownsRow.cellAt hO (j * 3 + 1) (by omega)).trans (fm_at tkC_len (mkg (mkTk q) j ++ ls.drop j) j 1 (by omega) (by decide))⟩
        obtain ⟨y2, d2⟩ : ∃ u, wr.cell? ⟨g, j * 3 + 2, none⟩ = some u := ⟨_, (World.ownsRow.cellAt hO (j * 3 + 2) (by omega)).trans (fm_at tkC_len (mkg (mkTk q) j ++ ls.drop j) j 2 (by omega) (by decide))⟩
        have f0 := World.ownsRow.frozenAt hO (j * 3)
        have f1 := World.ownsRow.frozenAt hO (j * 3 + 1)
        have f2 := World.ownsRow.frozenAt hO (j * 3 + 2)
        have hS := own_setg tkC_len hO j (by omega) (mkTk q j)
        rw [mkg_set (mkTk q) ls j hlt, hlen] at hS
        have HS : Hid (Og 3 tkC 38 base (((wr.setCell ⟨g, j * 3, none⟩ (.int .i64 (q + 3 * (j : Int)))).setCell ⟨g, j * 3 + 1, none⟩ (.int .i64 (q + 3 * (j : Int) + 1))).setCell ⟨g, j * 3 + 2, none⟩ (.int .i64 (q + 3 * (j : Int) + 1 + 1))) (.slice (some ⟨g, 0, none⟩) ls.length cap) (mkg (mkTk q) (j + 1) ++ ls.drop (j + 1))) := hS
        have HG : Hid (w.grownBy (((wr.setCell ⟨g, j * 3, none⟩ (.int .i64 (q + 3 * (j : Int)))).setCell ⟨g, j * 3 + 1, none⟩ (.int .i64 (q + 3 * (j : Int) + 1))).setCell ⟨g, j * 3 + 2, none⟩ (.int .i64 (q + 3 * (j : Int) + 1 + 1))) (some g)) := grown_trans hbr.out (grown_setW (tkC (mkTk q j)) wr g (j * 3))
        clear hO hS hw hbr hh
        go_wp2
        go_roundw
        case rel => exact ⟨j + 1, by omega, by go_num, by go_num, HS.out, HG.out⟩
        case measure => simp [intOf]; omega
      · obtain rfl : j = ls.length := by omega
        clear hh
        go_wp2
        go_ret
        exact ⟨rfl, by have := hw.out; simpa using this, hbr.out⟩
set_option maxHeartbeats 3200000 in
theorem heldTkS_c (v : Value) (q : Int) (n : Nat) (w : World) (h : Rg 3 tkC w v (mkg (mkTk q) n)) (h0 : 0 ≤ q) (hq : q + 3 * n ≤ 1152921504606846976) :
   Calls Tryd.prog 57 #[v, .int .i64 q] w fun e w' => e = .returned (.int .i64 (q + 3 * n)) ∧ Below w.heap.size w w' := by
  obtain ⟨a, cap, rfl, h1, h2, h3⟩ := h
  rw [mkg_len] at h1
  rw [mkg_len]
  unfold maxLen at h2
  go_enter Tryd.func57, Tryd.ntmps57
  go_wp2
  go_loopw [1, 5] (fun c i wr => ∃ j : Nat, j ≤ n ∧ i = .int .i64 j ∧ c = .int .i64 (q + 3 * j) ∧ Below w.heap.size w wr) (fun _ i _ => n - (intOf i).toNat)
  case atStart => exact ⟨0, Nat.zero_le _, rfl, by simp, Below.refl _ _⟩
  case round =>
    obtain ⟨j, hj, rfl, rfl, hbr⟩ := hrel
    by_cases hlt : j < n
    · rcases h3 with h3 | ⟨b, off, rfl, h4⟩
      · have := congrArg List.length h3; rw [mkg_len] at this; simp at this; omega
      have hc := h4 j (by rw [mkg_len]; exact hlt)
      rw [mkg_at] at hc
      have hcb : b < w.heap.size := block_lt_of_cell (hc 0 _ rfl)
      replace hc := rangeAt_below hc hbr hcb
      have c0 : wr.cell? ⟨b, off + j * 3, none⟩ = some (.int .i64 (q + 3 * (j : Int))) := hc 0 _ rfl
      have c1 : wr.cell? ⟨b, off + j * 3 + 1, none⟩ = some (.int .i64 (q + 3 * (j : Int) + 1)) := hc 1 _ rfl
      have c2 : wr.cell? ⟨b, off + j * 3 + 2, none⟩ = some (.int .i64 (q + 3 * (j : Int) + 1 + 1)) := hc 2 _ rfl
      have e0 : (q + 3 * (j : Int) != q + 3 * (j : Int)) = false := by simp
      have e1 : (q + 3 * (j : Int) + 1 != q + 3 * (j : Int) + 1) = false := by simp
      have e2 : (q + 3 * (j : Int) + 1 + 1 != q + 3 * (j : Int) + 1 + 1) = false := by simp
      clear h4 hc
      go_wp2
      go_roundw
      case rel => exact ⟨j + 1, by omega, by go_num, by go_num, hbr⟩
      case measure => simp [intOf]; omega
    · obtain rfl : j = n := by omega
      clear h3
      go_wp2
      go_ret
      exact ⟨rfl, hbr⟩

end Go.Proofs.YtmfmlbiplagmiaaDoor
