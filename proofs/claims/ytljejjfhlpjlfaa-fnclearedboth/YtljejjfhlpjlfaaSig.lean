/- Contracts of the laws' helpers that copy, compare and measure signals; no condition. -/
import Derived.Test.YtljejjfhlpjlfaaTri
import Derived.Deep.QuietTactic
namespace Go.Proofs.Ytljejjfhlpjlfaa
open Go.RowKit Go.ChangeShapes Go.WideShapes Go.ChangeAt
set_option linter.unusedVariables false
set_option linter.unusedSimpArgs false
set_option maxRecDepth 8000
theorem size38 : (Try.prog.info? 66).map (·.size) = some 3 := by kernel_rfl
theorem infoSig : (Try.prog.info? 66).map (fun i => (i.zero, i.size, i.bytes)) = some (some (.agg #[.int .i64 0, .int .i64 0, .int .i64 0]), 3, 24) := by kernel_rfl
abbrev P3 (x y z : Int) : Array Value := #[.int .i64 x, .int .i64 y, .int .i64 z]
theorem toSig_c (x y z : Int) (w : World) : Calls Try.prog 65 #[.agg (P3 x y z)] w fun e w' => e = .returned (.agg (P3 x y z)) ∧ Below w.heap.size w w' := by
  go_enter Try.func65, Try.ntmps65
  go_wp2
  have h1 : ((((w.alloc (Obj.cells (P3 x y z) 93)).alloc (Obj.cells (P3 x y z) 66)).alloc (Obj.cells (P3 x y z) 66))).heap[w.heap.size + 1]? = some (.cells (P3 x y z) 66 (0, 0)) :=
    ((Blk.newAt _ (w.heap.size + 1) _ 66 (by simp)).alloc _ : Blk _ _ _ _)
  exact bodyPost_ret (v := .agg (P3 x y z)) (results_cell_row rfl _ _ _ 66 _ (0, 0) _ rfl h1 Try.underlying66 rfl size38) rfl ⟨rfl, (((Below.refl _ _).alloc (Nat.le_refl _) _).alloc (by simp) _).alloc (by simp; omega) _⟩
theorem eqSig_c (x y z x' y' z' : Int) (w : World) : Calls Try.prog 67 #[.agg #[.int .i64 x, .int .i64 y, .int .i64 z], .agg #[.int .i64 x', .int .i64 y', .int .i64 z']] w fun e w' => e = .returned (.bool (decide ((x, y, z) = (x', y', z')))) ∧ Below w.heap.size w w' := by
  have hb : Below w.heap.size w ((w.alloc (Obj.cells #[.int .i64 x, .int .i64 y, .int .i64 z] 66)).alloc (Obj.cells #[.int .i64 x', .int .i64 y', .int .i64 z'] 66)) := ((Below.refl _ _).alloc (Nat.le_refl _) _).alloc (by simp) _
  have HB : Hid _ := hb
  clear hb
  go_enter Try.func67, Try.ntmps67
  go_wp2
  all_goals
    go_ret
    refine ⟨?_, HB.out⟩
    simp_all
/-- the first j of ls, noughts behind -/
def fil {α : Type} (x : α) (ls : List α) (j : Nat) : List α := ls.take j ++ List.replicate (ls.length - j) x
theorem fil_len {α : Type} (x : α) (ls : List α) (j : Nat) (h : j ≤ ls.length) : (fil x ls j).length = ls.length := by simp [fil]; omega
theorem fil_full {α : Type} (x : α) (ls : List α) : fil x ls ls.length = ls := by simp [fil]
theorem fil_set {α : Type} (x : α) (ls : List α) (j : Nat) (h : j < ls.length) : (fil x ls j).set j ls[j] = fil x ls (j + 1) := by
  have e : List.replicate (ls.length - j) x = x :: List.replicate (ls.length - (j + 1)) x := by
    rw [show ls.length - j = (ls.length - (j + 1)) + 1 by omega, List.replicate_succ]
  have t : ls.take (j + 1) = ls.take j ++ [ls[j]] := by rw [List.take_succ_eq_append_getElem h]
  have hm : min j ls.length = j := by omega
  rw [fil, fil, e]
  simp [List.set_append, hm]
  rw [t, List.append_assoc]; rfl
set_option maxHeartbeats 1600000 in
theorem toSigS_c (v : Value) (ls : Tri) (w : World) (h : Rt w v ls) (hn : ls.length ≤ 1048576) :
   Calls Try.prog 45 #[v] w fun e w' => ∃ v', e = .returned v' ∧ Ot 66 w.heap.size w' v' ls ∧ Below w.heap.size w w' := by
  obtain ⟨a, cap, rfl, h1, h2, h3⟩ := h
  unfold maxLen at h2
  obtain ⟨i0, hi, hz0, hz1, hz2⟩ := info_parts infoSig
  go_enter Try.func45, Try.ntmps45
  go_wp2_with (at_make; refine wpList_make_full _ rfl _ _ 29 rfl w.heap.size 66 i0 (.agg #[.int .i64 0, .int .i64 0, .int .i64 0]) 3 Try.underlying29 hi hz0 hz1 .i64 .i64 _ _ ls.length rfl rfl rfl rfl (by rw [hz2]; omega) (by unfold maxLen; omega) (Nat.le_refl _) ?_)
  intro w1 ho hg
  have hx : w1.ownsRow w.heap.size 66 3 (.slice (some ⟨w.heap.size, 0, none⟩) ls.length ls.length) ls.length (tr (fil (0, 0, 0) ls 0)) := by
    have e : tr (fil (0, 0, 0) ls 0) = (madeCells #[Value.int .i64 0, .int .i64 0, .int .i64 0] (ls.length * 3)).toList := by rw [tr_replicate (0, 0, 0) ls.length]; simp [fil]
    rw [e]; exact ho
  have hb : Below w.heap.size w w1 := grown_below hg (Nat.le_refl _) (by simp)
  clear hg ho
  go_wp2
  go_loopw [4] (fun i wr => ∃ j : Nat, j ≤ ls.length ∧ i = .int .i64 j ∧ wr.ownsRow w.heap.size 66 3 (.slice (some ⟨w.heap.size, 0, none⟩) ls.length ls.length) ls.length (tr (fil (0, 0, 0) ls j)) ∧ Below w.heap.size w wr) (fun i _ => ls.length - (intOf i).toNat)
  case atStart => exact ⟨0, Nat.zero_le _, rfl, hx, hb⟩
  case round =>
    obtain ⟨j, hj, rfl, hw, hbr⟩ := hrel
    clear hx hb
    by_cases hlt : j < ls.length
    · rcases h3 with h3 | ⟨b, off, rfl, h4⟩
      · subst h3; simp at hlt
      have hc := h4 j hlt
      have hcb : b < w.heap.size := block_lt_of_cell hc.1
      have hc0 : wr.cell? ⟨b, off + j * 3, none⟩ = some (.int .i64 ls[j].1) := by rw [hbr.cell hcb]; exact hc.1
      have hc1 : wr.cell? ⟨b, off + j * 3 + 1, none⟩ = some (.int .i64 ls[j].2.1) := by rw [hbr.cell hcb]; exact hc.2.1
      have hc2 : wr.cell? ⟨b, off + j * 3 + 2, none⟩ = some (.int .i64 ls[j].2.2) := by rw [hbr.cell hcb]; exact hc.2.2
      clear h4 hc
      go_wp2_with (fail)
      refine (toSig_c _ _ _ _).mono ?_
      rintro e w2 ⟨rfl, b2⟩
      have hw2 : w2.ownsRow w.heap.size 66 3 (.slice (some ⟨w.heap.size, 0, none⟩) ls.length ls.length) ls.length (tr (fil (0, 0, 0) ls j)) := World.ownsRow.kept (row := none) hw ⟨b2.os, b2.tape, b2.output, b2.size, fun i hi _ => b2.block i hi⟩ (by simp [Value.ownBlock])
      have c2 := belowCall hbr b2 hbr.size
      have hfl := fil_len (0, 0, 0) ls j hj
      have hO : Ot 66 w.heap.size w2 (.slice (some ⟨w.heap.size, 0, none⟩) (fil (0, 0, 0) ls j).length ls.length) (fil (0, 0, 0) ls j) := by rw [Ot, hfl]; exact hw2
      have hp := tr_at (fil (0, 0, 0) ls j) j (by omega)
      obtain ⟨y0, hd0⟩ : ∃ u, w2.cell? ⟨w.heap.size, j * 3, none⟩ = some u := ⟨_, (hw2.cellAt (j * 3) (by omega)).trans hp.1⟩
      obtain ⟨y1, hd1⟩ : ∃ u, w2.cell? ⟨w.heap.size, j * 3 + 1, none⟩ = some u := ⟨_, (hw2.cellAt (j * 3 + 1) (by omega)).trans hp.2.1⟩
      obtain ⟨y2, hd2⟩ : ∃ u, w2.cell? ⟨w.heap.size, j * 3 + 2, none⟩ = some u := ⟨_, (hw2.cellAt (j * 3 + 2) (by omega)).trans hp.2.2⟩
      have hf0 := hw2.frozenAt (j * 3)
      have hf1 := hw2.frozenAt (j * 3 + 1)
      have hf2 := hw2.frozenAt (j * 3 + 2)
      have hS := own_set3 hO j (by omega) ls[j]
      rw [fil_set, Ot, hfl, fil_len _ _ _ (by omega)] at hS
      have c3 : Below w.heap.size w (((w2.setCell ⟨w.heap.size, j * 3, none⟩ (.int .i64 ls[j].1)).setCell ⟨w.heap.size, j * 3 + 1, none⟩ (.int .i64 ls[j].2.1)).setCell ⟨w.heap.size, j * 3 + 2, none⟩ (.int .i64 ls[j].2.2)) := ((c2.setCell (by exact Nat.le_refl _) _).setCell (by exact Nat.le_refl _) _).setCell (by exact Nat.le_refl _) _
      have HS : Hid _ := hS
      have HC : Hid _ := c3
      clear hw hbr hw2 c2 b2 hO hS c3 hp hfl
      go_wp2
      go_roundw
      case rel => exact ⟨j + 1, by omega, by go_num, HS.out, HC.out⟩
      case measure => simp [intOf]; omega
    · obtain rfl : j = ls.length := by omega
      rw [fil_full] at hw
      clear h3
      go_wp2
      go_ret
      exact ⟨_, rfl, hw, hbr⟩
/-- two elements are taken and compared, in whatever order -/
def JP (v v' : Value) (j : Nat) (b o b' o' : Nat) (x y : Value) (q : Bool) (U : Value → Value → Value → Value → Value → Value → Value → Value → Value → Value → Act) (S : World → Prop) (d : Nat → Bool) (A : Act) (W : World) : Prop :=
  ∃ u0 u1 u2 u3 u4 u5 u6 u7 u8 u9 : Value, A = U u0 u1 u2 u3 u4 u5 u6 u7 u8 u9 ∧ S W ∧ (d 0 = true → u0 = v) ∧ (d 1 = true → u1 = .int .i64 j) ∧ (d 2 = true → u2 = .pointer (some ⟨b, o, none⟩)) ∧ (d 3 = true → u3 = x) ∧
    (d 4 = true → u4 = v') ∧ (d 5 = true → u5 = .int .i64 j) ∧ (d 6 = true → u6 = .pointer (some ⟨b', o', none⟩)) ∧ (d 7 = true → u7 = y) ∧ (d 8 = true → u8 = .bool q) ∧ (d 9 = true → u9 = .bool !q)
theorem eqSigRowIdx (b off n cap j : Nat) (hj : j < n) (W : World) : (Instr.indexAt 29 (.slice (some ⟨b, off, none⟩) n cap) (.int .i64 (j : Int))).run Try.prog W = .ok (.pointer (some ⟨b, off + j * 3, none⟩)) W := by
  have hs : (sizeOf 66).run Try.prog W = .ok 3 W := by simp [sizeOf, typeInfo, Sem.run_bind]; cases hq : Try.prog.info? 66 with
    | none => have := size38; rw [hq] at this; cases this
    | some i => have := size38; rw [hq] at this; simp at this; simp [this]
  have hji : (j : Int) < (n : Int) := by omega
  have hn : ¬ n ≤ j := by omega
  have hadd : (⟨b, off, none⟩ : Addr).add (j * 3) = ⟨b, off + j * 3, none⟩ := by unfold Addr.add; split <;> simp_all
  simp [Instr.indexAt, asIntOf, run_underlying Try.underlying29, hji, hs, hadd, hn]
theorem eqSigRowWp {o : Oper} {a : Act} {w : World} {K : Act → World → Prop} {Q : Exit → Act → World → Prop} (x y : Operand) (ho : o.op = .indexAddr 29 x y) (b off n cap j : Nat) (hx : a.eval x = .slice (some ⟨b, off, none⟩) n cap) (hy : a.eval y = .int .i64 (j : Int)) (hj : j < n)
    (h : K (a.put o.dst (.pointer (some ⟨b, off + j * 3, none⟩))) w) : o.wp Try.prog a w K Q :=
  wp_val _ (by simp only [execOp, ho, hx, hy, Sem.run_bind, eqSigRowIdx b off n cap j hj, Result.andThen_ok, Sem.run_pure]) h
set_option maxHeartbeats 1600000 in
theorem eqSigRow (v v' : Value) (xs ys : Tri) (q : Nat → Bool) (w : World) (h : Rt w v xs) (h' : Rt w v' ys)
    (hq : ∀ j (h1 : j < xs.length) (h2 : j < ys.length) W, Below w.heap.size w W → Calls Try.prog 67 #[.agg #[.int .i64 xs[j].1, .int .i64 xs[j].2.1, .int .i64 xs[j].2.2], .agg #[.int .i64 ys[j].1, .int .i64 ys[j].2.1, .int .i64 ys[j].2.2]] W fun e w' => e = .returned (.bool (q j)) ∧ Below W.heap.size W w') :
   Calls Try.prog 50 #[v, v'] w fun e w' => ∃ r, e = .returned (.bool r) ∧ (r = true ↔ xs.length = ys.length ∧ ∀ j, j < xs.length → q j = true) ∧ Below w.heap.size w w' := by
  obtain ⟨a, cap, rfl, h1, h2, h3⟩ := h
  obtain ⟨a', cap', rfl, h1', h2', h3'⟩ := h'
  unfold maxLen at h2 h2'
  have HQ : Hid (∀ j (h1 : j < xs.length) (h2 : j < ys.length) W, Below w.heap.size w W → Calls Try.prog 67 #[.agg #[.int .i64 xs[j].1, .int .i64 xs[j].2.1, .int .i64 xs[j].2.2], .agg #[.int .i64 ys[j].1, .int .i64 ys[j].2.1, .int .i64 ys[j].2.2]] W fun e w' => e = .returned (.bool (q j)) ∧ Below W.heap.size W w') := hq
  clear hq
  by_cases hne : xs.length = ys.length
  · obtain ⟨n, hnx⟩ : ∃ n, xs.length = n := ⟨_, rfl⟩
    have hny : ys.length = n := by omega
    have HX : Hid (xs.length = n) := hnx
    have HY : Hid (ys.length = n) := hny
    rw [hnx] at h1
    rw [hny] at h1'
    rw [hnx, hny]
    have hneb : ((n : Int) != (n : Int)) = false := by simp
    clear hne hnx hny
    go_enter Try.func50, Try.ntmps50
    go_wp2
    go_loopw [5] (fun i wr => ∃ j : Nat, j ≤ n ∧ i = .int .i64 j ∧ Hid (∀ t, t < j → q t = true) ∧ Below w.heap.size w wr) (fun i _ => n - (intOf i).toNat)
    case atStart => exact ⟨0, Nat.zero_le _, rfl, fun t ht => by omega, Below.refl _ _⟩
    case round =>
      obtain ⟨j, hj, rfl, hall, hbr⟩ := hrel
      by_cases hlt : j < n
      · have hjx : j < xs.length := by have h := HX.out; omega
        have hjy : j < ys.length := by have h := HY.out; omega
        rcases h3 with h3 | ⟨b, off, rfl, h4⟩
        · subst h3; simp at hjx
        rcases h3' with h3' | ⟨b', off', rfl, h4'⟩
        · subst h3'; simp at hjy
        have hr : ∀ W, Below w.heap.size w W → W.rangeAt b (off + j * 3) [.int .i64 xs[j].1, .int .i64 xs[j].2.1, .int .i64 xs[j].2.2] := fun W hW => range3 ((hW.cell (block_lt_of_cell (h4 j hjx).1)).trans (h4 j hjx).1) ((hW.cell (block_lt_of_cell (h4 j hjx).2.1)).trans (h4 j hjx).2.1) ((hW.cell (block_lt_of_cell (h4 j hjx).2.2)).trans (h4 j hjx).2.2)
        have hr' : ∀ W, Below w.heap.size w W → W.rangeAt b' (off' + j * 3) [.int .i64 ys[j].1, .int .i64 ys[j].2.1, .int .i64 ys[j].2.2] := fun W hW => range3 ((hW.cell (block_lt_of_cell (h4' j hjy).1)).trans (h4' j hjy).1) ((hW.cell (block_lt_of_cell (h4' j hjy).2.1)).trans (h4' j hjy).2.1) ((hW.cell (block_lt_of_cell (h4' j hjy).2.2)).trans (h4' j hjy).2.2)
        have HR : Hid (∀ W, Below w.heap.size w W → W.rangeAt b (off + j * 3) [.int .i64 xs[j].1, .int .i64 xs[j].2.1, .int .i64 xs[j].2.2]) := hr
        have HR' : Hid (∀ W, Below w.heap.size w W → W.rangeAt b' (off' + j * 3) [.int .i64 ys[j].1, .int .i64 ys[j].2.1, .int .i64 ys[j].2.2]) := hr'
        have HE : Hid (∀ W, Below w.heap.size w W → Calls Try.prog 67 #[.agg #[.int .i64 xs[j].1, .int .i64 xs[j].2.1, .int .i64 xs[j].2.2], .agg #[.int .i64 ys[j].1, .int .i64 ys[j].2.1, .int .i64 ys[j].2.2]] W fun e w' => e = .returned (.bool (q j)) ∧ Below W.heap.size W w') := fun W hW => HQ.out j hjx hjy W hW
        clear h4 h4' hr hr' hneb HQ
        go_wp2
        refine region_inv (by kernel_rfl) (by kernel_rfl) (JP (.slice (some ⟨b, off, none⟩) n cap) (.slice (some ⟨b', off', none⟩) n cap') j b (off + j * 3) b' (off' + j * 3) (.agg #[.int .i64 xs[j].1, .int .i64 xs[j].2.1, .int .i64 xs[j].2.2]) (.agg #[.int .i64 ys[j].1, .int .i64 ys[j].2.1, .int .i64 ys[j].2.2]) (q j) (fun u0 u1 u2 u3 u4' u5' u6 u7 u8 u9 => ⟨#[.slice (some ⟨b, off, none⟩) n cap, .slice (some ⟨b', off', none⟩) n cap', undef, undef, u4, .int .i64 j, .slice (some ⟨b, off, none⟩) n cap, .int .i64 n, .slice (some ⟨b', off', none⟩) n cap', .int .i64 n, .bool false, .int .i64 j, .slice (some ⟨b, off, none⟩) n cap, .int .i64 n, .bool true, u15, u16, u0, u1, u2, u3, u4', u5', u6, u7, u8, u9], []⟩) (Below w.heap.size w)) ⟨_, _, _, _, _, _, _, _, _, _, rfl, hbr.drew, by simp, by simp, by simp, by simp, by simp, by simp, by simp, by simp, by simp, by simp⟩ ⟨?_, ?_, ?_, ?_, ?_, ?_, ?_, ?_, ?_, ?_, trivial⟩ ?_
        · rintro d A W ⟨x0, x1, x2, x3, x4, x5, x6, x7, x8, x9, rfl, I, e0, e1, e2, e3, e4, e5, e6, e7, e8, e9⟩ hn hd
          exact wp_val _ rfl ⟨_, x1, x2, x3, x4, x5, x6, x7, x8, x9, rfl, I, fun _ => rfl, e1, e2, e3, e4, e5, e6, e7, e8, e9⟩
        · rintro d A W ⟨x0, x1, x2, x3, x4, x5, x6, x7, x8, x9, rfl, I, e0, e1, e2, e3, e4, e5, e6, e7, e8, e9⟩ hn hd
          exact wp_val _ rfl ⟨x0, _, x2, x3, x4, x5, x6, x7, x8, x9, rfl, I, e0, fun _ => rfl, e2, e3, e4, e5, e6, e7, e8, e9⟩
        · rintro d A W ⟨x0, x1, x2, x3, x4, x5, x6, x7, x8, x9, rfl, I, e0, e1, e2, e3, e4, e5, e6, e7, e8, e9⟩ hn hd
          obtain rfl := e0 (hd ⟨0, .data⟩ (by simp))
          obtain rfl := e1 (hd ⟨1, .data⟩ (by simp))
          exact eqSigRowWp _ _ rfl b off n cap j rfl rfl hlt ⟨_, _, _, x3, x4, x5, x6, x7, x8, x9, rfl, I, e0, e1, fun _ => rfl, e3, e4, e5, e6, e7, e8, e9⟩
        · rintro d A W ⟨x0, x1, x2, x3, x4, x5, x6, x7, x8, x9, rfl, I, e0, e1, e2, e3, e4, e5, e6, e7, e8, e9⟩ hn hd
          obtain rfl := e2 (hd ⟨2, .data⟩ (by simp))
          exact wp_load_mid 66 _ rfl b (off + j * 3) rfl [.int .i64 xs[j].1, .int .i64 xs[j].2.1, .int .i64 xs[j].2.2] _ (HR.out W I) Try.underlying66 rfl size38 ⟨x0, x1, _, _, x4, x5, x6, x7, x8, x9, rfl, I, e0, e1, e2, fun _ => rfl, e4, e5, e6, e7, e8, e9⟩
        · rintro d A W ⟨x0, x1, x2, x3, x4, x5, x6, x7, x8, x9, rfl, I, e0, e1, e2, e3, e4, e5, e6, e7, e8, e9⟩ hn hd
          exact wp_val _ rfl ⟨x0, x1, x2, x3, _, x5, x6, x7, x8, x9, rfl, I, e0, e1, e2, e3, fun _ => rfl, e5, e6, e7, e8, e9⟩
        · rintro d A W ⟨x0, x1, x2, x3, x4, x5, x6, x7, x8, x9, rfl, I, e0, e1, e2, e3, e4, e5, e6, e7, e8, e9⟩ hn hd
          exact wp_val _ rfl ⟨x0, x1, x2, x3, x4, _, x6, x7, x8, x9, rfl, I, e0, e1, e2, e3, e4, fun _ => rfl, e6, e7, e8, e9⟩
        · rintro d A W ⟨x0, x1, x2, x3, x4, x5, x6, x7, x8, x9, rfl, I, e0, e1, e2, e3, e4, e5, e6, e7, e8, e9⟩ hn hd
          obtain rfl := e4 (hd ⟨4, .data⟩ (by simp))
          obtain rfl := e5 (hd ⟨5, .data⟩ (by simp))
          exact eqSigRowWp _ _ rfl b' off' n cap' j rfl rfl hlt ⟨x0, x1, x2, x3, _, _, _, x7, x8, x9, rfl, I, e0, e1, e2, e3, e4, e5, fun _ => rfl, e7, e8, e9⟩
        · rintro d A W ⟨x0, x1, x2, x3, x4, x5, x6, x7, x8, x9, rfl, I, e0, e1, e2, e3, e4, e5, e6, e7, e8, e9⟩ hn hd
          obtain rfl := e6 (hd ⟨6, .data⟩ (by simp))
          exact wp_load_mid 66 _ rfl b' (off' + j * 3) rfl [.int .i64 ys[j].1, .int .i64 ys[j].2.1, .int .i64 ys[j].2.2] _ (HR'.out W I) Try.underlying66 rfl size38 ⟨x0, x1, x2, x3, x4, x5, _, _, x8, x9, rfl, I, e0, e1, e2, e3, e4, e5, e6, fun _ => rfl, e8, e9⟩
        · rintro d A W ⟨x0, x1, x2, x3, x4, x5, x6, x7, x8, x9, rfl, I, e0, e1, e2, e3, e4, e5, e6, e7, e8, e9⟩ hn hd
          obtain rfl := e3 (hd ⟨3, .data⟩ (by simp))
          obtain rfl := e7 (hd ⟨7, .data⟩ (by simp))
          refine wp_call 67 #[.agg #[.int .i64 xs[j].1, .int .i64 xs[j].2.1, .int .i64 xs[j].2.2], .agg #[.int .i64 ys[j].1, .int .i64 ys[j].2.1, .int .i64 ys[j].2.2]] (by kernel_rfl) _ (HE.out W I) ?_
          rintro e W' ⟨rfl, hb1⟩
          exact ⟨_, rfl, x0, x1, x2, _, x4, x5, x6, _, _, x9, rfl, belowCall I hb1 I.size, e0, e1, e2, e3, e4, e5, e6, e7, fun _ => rfl, e9⟩
        · rintro d A W ⟨x0, x1, x2, x3, x4, x5, x6, x7, x8, x9, rfl, I, e0, e1, e2, e3, e4, e5, e6, e7, e8, e9⟩ hn hd
          obtain rfl := e8 (hd ⟨8, .data⟩ (by simp))
          exact wp_val _ rfl ⟨x0, x1, x2, x3, x4, x5, x6, x7, _, _, rfl, I, e0, e1, e2, e3, e4, e5, e6, e7, e8, fun _ => rfl⟩
        · rintro d A W ⟨x0, x1, x2, x3, x4, x5, x6, x7, x8, x9, rfl, I, e0, e1, e2, e3, e4, e5, e6, e7, e8, e9⟩ hd
          obtain rfl := e0 (hd 0 (by decide))
          obtain rfl := e1 (hd 1 (by decide))
          obtain rfl := e2 (hd 2 (by decide))
          obtain rfl := e3 (hd 3 (by decide))
          obtain rfl := e4 (hd 4 (by decide))
          obtain rfl := e5 (hd 5 (by decide))
          obtain rfl := e6 (hd 6 (by decide))
          obtain rfl := e7 (hd 7 (by decide))
          obtain rfl := e8 (hd 8 (by decide))
          obtain rfl := e9 (hd 9 (by decide))
          clear e0 e1 e2 e3 e4 e5 e6 e7 e8 e9 hd
          cases heq : q j with
          | false =>
            have hab : Hid (¬ ∀ j, j < n → q j = true) := fun h => by have := h j hlt; rw [heq] at this; cases this
            go_wp2
            go_ret
            exact ⟨_, rfl, ⟨fun h => (by cases h), fun h => absurd (fun j hj => h.2 j hj) hab.out⟩, I⟩
          | true =>
            go_wp2
            go_roundw
            case rel =>
              refine ⟨j + 1, by omega, by go_num, fun t ht => ?_, I⟩
              by_cases hjk : t < j
              · exact hall.out t hjk
              · obtain rfl : t = j := by omega
                exact heq
            case measure => simp [intOf]; omega
      · obtain rfl : j = n := by omega
        clear h3 h3'
        go_wp2
        go_ret
        exact ⟨_, rfl, ⟨fun _ => ⟨by trivial, hall.out⟩, fun _ => rfl⟩, hbr⟩
  · have hneb : ((xs.length : Int) != (ys.length : Int)) = true := by rw [bne_iff_ne]; omega
    have hab : Hid (¬ xs.length = ys.length) := hne
    clear hne h3 h3'
    go_enter Try.func50, Try.ntmps50
    go_wp2
    go_ret
    exact ⟨_, rfl, ⟨fun h => (by cases h), fun h => absurd h.1 hab.out⟩, Below.refl _ _⟩
theorem eqSigS_c (v v' : Value) (xs ys : Tri) (w : World) (h : Rt w v xs) (h' : Rt w v' ys) :
   Calls Try.prog 50 #[v, v'] w fun e w' => e = .returned (.bool (decide (xs = ys))) ∧ Below w.heap.size w w' := by
  refine (eqSigRow v v' _ _ (fun j => decide (xs[j]? = ys[j]?)) w h h' ?_).mono ?_
  · intro j g1 g2 W hW
    refine (eqSig_c _ _ _ _ _ _ W).mono ?_
    rintro e w' ⟨rfl, hb⟩
    exact ⟨by simp [List.getElem?_eq_getElem g1, List.getElem?_eq_getElem g2, Prod.ext_iff], hb⟩
  · rintro e w' ⟨r, rfl, hr, hb⟩
    refine ⟨?_, hb⟩
    simp only [decide_eq_true_eq] at hr
    have : r = decide (xs = ys) := by
      rw [Bool.eq_iff_iff, hr, decide_eq_true_eq]
      constructor
      · rintro ⟨hl, ha⟩
        apply List.ext_getElem?
        intro i
        by_cases hi : i < xs.length
        · exact ha i hi
        · rw [List.getElem?_eq_none (by omega), List.getElem?_eq_none (by omega)]
      · rintro rfl; exact ⟨rfl, fun _ _ => rfl⟩
    rw [this]
/-- what is left of a number of cells, behind n of them -/
def lft (left : Int) (n : Nat) : Int := if left - n < 0 then -1 else left - n
theorem szSigS_c (v : Value) (ls : Tri) (left : Int) (w : World) (h : Rt w v ls) (h0 : 0 ≤ left) (h1 : left ≤ 1048576) :
   Calls Try.prog 43 #[v, .int .i64 left] w fun e w' => e = .returned (.int .i64 (lft left ls.length)) ∧ w' = w := by
  obtain ⟨a, cap, rfl, h2, h3, -⟩ := h
  unfold maxLen at h3
  go_enter Try.func43, Try.ntmps43
  by_cases hl : left - ls.length < 0
  · go_wp2
    go_ret
    exact ⟨by simp [lft, hl], rfl⟩
  · have hq : lft left ls.length = left - ls.length := by simp only [lft]; rw [if_neg hl]
    go_wp2
    go_ret
    exact ⟨by first | rfl | (rw [hq]; rfl), rfl⟩
end Go.Proofs.Ytljejjfhlpjlfaa
