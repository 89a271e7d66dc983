/- Rows of packets; no condition. -/
import Derived.Test.YtkjfcebdjnclaaaDoorPka
import Derived.Test.YtkjfcebdjnclaaaDoorReg
namespace Go.Proofs.YtkjfcebdjnclaaaDoor
open Go.RowKit Go.ChangeShapes Go.WideShapes Go.ChangeAt
set_option linter.unusedVariables false
set_option linter.unusedSimpArgs false
set_option maxRecDepth 8000

theorem rg_mid {w : World} {b off : Nat} {k : Pk} (h : w.rangeAt b off (pkC k)) : w.cell? ⟨b, off, none⟩ = some (.int .i64 k.t) ∧ w.cell? ⟨b, off + 1, none⟩ = some (.int .i64 k.s) ∧ w.rangeAt b (off + 2) (frF k.f) := by
  refine ⟨h 0 _ rfl, h 1 _ rfl, fun j v hv => ?_⟩
  have := h (j + 1 + 1) v (by simpa using hv)
  rw [show off + 2 + j = off + (j + 1 + 1) by omega]; exact this
/-- a whole packet of the laws out of a row -/
theorem ldL {ops : Array Oper} {rest : List Oper} {o : Oper} {a : Act} {w : World} {Q : Exit → Act → World → Prop} (hgd : o.guard = none) (x : Operand) (ho : o.op = .load 105 x)
    (g off : Nat) (hx : a.eval x = .pointer (some ⟨g, off, none⟩)) (k : Pk) (hr : w.rangeAt g off (pkC k))
    (h : wpList Tryd.prog ops Q rest (a.put o.dst (.agg (pkA k))) w) : wpList Tryd.prog ops Q (o :: rest) a w :=
  wpList_load_mid hgd 105 x ho g off hx (pkC k) _ hr Tryd.underlying105 rfl (by rw [pkC_len]; exact sizeLp) h
/-- a whole packet out of a row -/
theorem ldM {ops : Array Oper} {rest : List Oper} {o : Oper} {a : Act} {w : World} {Q : Exit → Act → World → Prop} (hgd : o.guard = none) (x : Operand) (ho : o.op = .load 40 x)
    (g off : Nat) (hx : a.eval x = .pointer (some ⟨g, off, none⟩)) (k : Pk) (hr : w.rangeAt g off (pkC k))
    (h : wpList Tryd.prog ops Q rest (a.put o.dst (.agg (pkA k))) w) : wpList Tryd.prog ops Q (o :: rest) a w :=
  wpList_load_mid hgd 40 x ho g off hx (pkC k) _ hr Tryd.underlying40 rfl (by rw [pkC_len]; exact sizePk) h
theorem stM {ops : Array Oper} {rest : List Oper} {o : Oper} {a : Act} {w : World} {Q : Exit → Act → World → Prop} (hgd : o.guard = none) (x y : Operand) (ho : o.op = .store 40 x y)
    (g off : Nat) (hx : a.eval x = .pointer (some ⟨g, off, none⟩)) (k : Pk) (hy : a.eval y = .agg (pkA k)) (hth : w.there g off 18)
    (h : wpList Tryd.prog ops Q rest (a.put o.dst undef) (w.setCells g off (pkC k))) : wpList Tryd.prog ops Q (o :: rest) a w :=
  wpList_store_mid hgd 40 x y ho g off (pkA k) hx hy (by rw [pkA_size]; exact hth) (by rw [pkA_size]; exact sizePk) (by simpa using pkC_one' k) h
theorem own_there {base : Nat} {w : World} {g n cap : Nat} {ls : List Pk} (h : Og 18 pkC 40 base w (.slice (some ⟨g, 0, none⟩) n cap) ls) (hn : ls.length = n) (j : Nat) (hj : j < n) : w.there g (j * 18) 18 := by
  subst hn
  intro i hi
  refine ⟨?_, World.ownsRow.frozenAt h _⟩
  rw [World.ownsRow.cellAt h (j * 18 + i) (by omega), fm_at pkC_len ls j i hj hi, List.getElem?_eq_getElem (by rw [pkC_len]; exact hi)]; rfl
theorem own_putM {base : Nat} {w : World} {g n cap : Nat} {ls : List Pk} (h : Og 18 pkC 40 base w (.slice (some ⟨g, 0, none⟩) n cap) ls) (hn : ls.length = n) (j : Nat) (hj : j < n) (k : Pk) : Og 18 pkC 40 base (w.setCells g (j * 18) (pkC k)) (.slice (some ⟨g, 0, none⟩) n cap) (ls.set j k) := by
  subst hn
  have h1 := own_setCells (pkC k) (j * 18) w _ h
  rw [fm_set pkC_len ls j k hj] at h1
  rw [Og, List.length_set]; exact h1
set_option maxHeartbeats 3200000 in
theorem toPkS_c (v : Value) (ls : List Pk) (w : World) (h : Rg 18 pkC w v ls) (hn : ls.length ≤ 1048576) :
   Calls Tryd.prog 50 #[v] w fun e w' => ∃ v', e = .returned v' ∧ Og 18 pkC 40 w.heap.size w' v' ls ∧ Below w.heap.size w w' := by
  obtain ⟨a, cap, rfl, h1, h2, h3⟩ := h
  unfold maxLen at h2
  obtain ⟨i0, hi, hz0, hz1, hz2⟩ := info_parts infoPk
  go_enter Tryd.func50, Tryd.ntmps50
  go_wp2_with (at_make; refine wpList_make_full _ rfl _ _ 36 rfl w.heap.size 40 i0 (.agg (pkA zPk)) 18 Tryd.underlying36 hi hz0 hz1 .i64 .i64 _ _ ls.length rfl rfl rfl rfl (by rw [hz2]; omega) (by unfold maxLen; omega) (Nat.le_refl _) ?_)
  intro w1 ho hg
  have hx : Og 18 pkC 40 w.heap.size w1 (.slice (some ⟨w.heap.size, 0, none⟩) ls.length ls.length) (filg zPk ls 0) := by
    have e : (filg zPk ls 0).flatMap pkC = (madeCells (pkA zPk) (ls.length * 18)).toList := by rw [fm_rep pkC_len (by decide) zPk _ rfl ls.length]; simp [filg]
    rw [Og, filg_len _ _ _ (Nat.zero_le _), e]; exact ho
  have HX : Hid (Og 18 pkC 40 w.heap.size w1 (.slice (some ⟨w.heap.size, 0, none⟩) ls.length ls.length) (filg zPk ls 0)) := hx
  have HB : Hid (Below w.heap.size w w1) := grown_below hg (Nat.le_refl _) (by simp)
  clear hg ho hx
  go_wp2
  go_loopw [4] (fun i wr => ∃ j : Nat, j ≤ ls.length ∧ i = .int .i64 j ∧ Hid (Og 18 pkC 40 w.heap.size wr (.slice (some ⟨w.heap.size, 0, none⟩) ls.length ls.length) (filg zPk ls j)) ∧ Hid (Below w.heap.size w wr)) (fun i _ => ls.length - (intOf i).toNat)
  case atStart => exact ⟨0, Nat.zero_le _, rfl, HX.out, HB.out⟩
  case round =>
    obtain ⟨j, hj, rfl, hw, hbr⟩ := hrel
    clear HX HB
    by_cases hlt : j < ls.length
    · rcases h3 with h3 | ⟨b, off, rfl, h4⟩
      · subst h3; simp at hlt
      have hcb : b < w.heap.size := block_lt_of_cell (h4 j hlt 0 _ rfl)
      obtain ⟨k, hk⟩ : ∃ k, ls[j] = k := ⟨_, rfl⟩
      have HK : Hid (ls[j] = k) := hk
      have HR : Hid (wr.rangeAt b (off + j * 18) (pkC k)) := by rw [← hk]; exact rangeAt_below (h4 j hlt) hbr.out hcb
      have hi1 : (0 : Int) ≤ (j : Int) := by omega
      have hi2 : (j : Int) < (ls.length : Int) := by omega
      clear h4 hk
      go_wp2_with (refine ldL rfl _ rfl b (off + j * 18) rfl k HR.out ?_)
      refine (toPk_c k _).mono ?_
      rintro e w2 ⟨rfl, b2⟩
      have hw2 := hw.out.below b2
      have c2 := belowCall hbr.out b2 hbr.out.size
      have hfl := filg_len zPk ls j hj
      obtain ⟨W2, hW2⟩ : ∃ W, w2 = W := ⟨_, rfl⟩
      have HW2 : Hid (w2 = W2) := hW2
      rw [hW2] at hw2 c2
      clear hW2
      have HTH : Hid (W2.there w.heap.size (j * 18) 18) := own_there hw2 hfl j hlt
      have hS := own_putM hw2 hfl j hlt ls[j]
      rw [filg_set, HK.out] at hS
      have HS : Hid (Og 18 pkC 40 w.heap.size (W2.setCells w.heap.size (j * 18) (pkC k)) (.slice (some ⟨w.heap.size, 0, none⟩) ls.length ls.length) (filg zPk ls (j + 1))) := hS
      have HC : Hid (Below w.heap.size w (W2.setCells w.heap.size (j * 18) (pkC k))) := below_setCells (Nat.le_refl _) _ _ _ c2
      clear hw hbr hw2 c2 b2 hS hfl HR HK
      go_wp2_with (rw [HW2.out]; refine stM rfl _ _ rfl w.heap.size (j * 18) rfl k rfl HTH.out ?_)
      go_roundw
      case rel => exact ⟨j + 1, by omega, by go_num, HS.out, HC.out⟩
      case measure => simp [intOf]; omega
    · obtain rfl : j = ls.length := by omega
      rw [filg_full] at hw
      clear h3
      go_wp2
      go_ret
      exact ⟨_, rfl, hw.out, hbr.out⟩
theorem szPkS_c (v : Value) (ls : List Pk) (left : Int) (w : World) (h : Rg 18 pkC w v ls) (h0 : 0 ≤ left) (hl : left ≤ 1048576) :
    Calls Tryd.prog 48 #[v, .int .i64 left] w fun e w' => e = .returned (.int .i64 (if left < ls.length then -1 else left - ls.length)) ∧ w' = w := by
  obtain ⟨a, cap, rfl, h1, h2, -⟩ := h
  unfold maxLen at h2
  by_cases hlt : left < (ls.length : Int)
  · have g : left - (ls.length : Int) < 0 := by omega
    rw [if_pos hlt]
    clear hlt
    go_enter Tryd.func48, Tryd.ntmps48
    go_wp2
    go_ret
    exact ⟨rfl, rfl⟩
  · have g : ¬ left - (ls.length : Int) < 0 := by omega
    rw [if_neg hlt]
    clear hlt
    go_enter Tryd.func48, Tryd.ntmps48
    go_wp2
    go_ret
    exact ⟨rfl, rfl⟩

set_option maxHeartbeats 1600000 in
theorem eqPk_t (k : Pk) (w : World) : Calls Tryd.prog 96 #[.agg (pkA k), .agg (pkA k)] w fun e w' => e = .returned (.bool true) ∧ Below w.heap.size w w' := by
  obtain ⟨W1, hW1⟩ : ∃ W, (w.alloc (Obj.cells (pkA k) 40)).alloc (Obj.cells (pkA k) 40) = W := ⟨_, rfl⟩
  have HB : Hid (Below w.heap.size w W1) := by rw [← hW1]; exact ((Below.refl _ _).alloc (Nat.le_refl _) _).alloc (by simp) _
  have K0 : Blk W1 w.heap.size (pkA k) 40 := by rw [← hW1]; exact (Blk.new _ _ _).alloc _
  have K1 : Blk W1 (w.heap.size + 1) (pkA k) 40 := by rw [← hW1]; exact Blk.newAt _ _ _ _ (by simp)
  have x0 := pk_cell0 K0
  have x1 := pk_cell1 K0
  have y0 := pk_cell0 K1
  have y1 := pk_cell1 K1
  have HR : Hid (W1.rangeAt w.heap.size 2 (frF k.f) ∧ W1.rangeAt (w.heap.size + 1) 2 (frF k.f)) := ⟨pk_range K0, pk_range K1⟩
  have n0 : (k.t != k.t) = false := by simp
  have n1 : (k.s != k.s) = false := by simp
  clear K0 K1
  go_enter Tryd.func96, Tryd.ntmps96
  go_wp2_with (first | refine ldPF rfl _ rfl w.heap.size 2 rfl k.f HR.out.1 ?_ | refine ldPF rfl _ rfl (w.heap.size + 1) 2 rfl k.f HR.out.2 ?_)
  refine (eq16_t k.f _).mono ?_
  rintro e w2 ⟨rfl, b2⟩
  have HB2 : Hid (Below w.heap.size w w2) := belowCall HB.out b2 HB.out.size
  clear b2 HR HB x0 x1 y0 y1 hW1
  go_wp2
  go_ret
  exact ⟨rfl, HB2.out⟩
theorem ixPk (b off n cap j : Nat) (hj : j < n) (W : World) : (Instr.indexAt 36 (.slice (some ⟨b, off, none⟩) n cap) (.int .i64 (j : Int))).run Tryd.prog W = .ok (.pointer (some ⟨b, off + j * 18, none⟩)) W := by
  have hs : (sizeOf 40).run Tryd.prog W = .ok 18 W := by simp [sizeOf, typeInfo, Sem.run_bind]; cases hq : Tryd.prog.info? 40 with
    | none => have := sizePk; rw [hq] at this; cases this
    | some i => have := sizePk; rw [hq] at this; simp at this; simp [this]
  have hji : (j : Int) < (n : Int) := by omega
  have hn : ¬ n ≤ j := by omega
  have hadd : (⟨b, off, none⟩ : Addr).add (j * 18) = ⟨b, off + j * 18, none⟩ := by unfold Addr.add; split <;> simp_all
  simp [Instr.indexAt, asIntOf, run_underlying Tryd.underlying36, hji, hs, hadd, hn]
theorem ixwPk {o : Oper} {a : Act} {w : World} {K : Act → World → Prop} {Q : Exit → Act → World → Prop} (x y : Operand) (ho : o.op = .indexAddr 36 x y) (b off n cap j : Nat) (hx : a.eval x = .slice (some ⟨b, off, none⟩) n cap) (hy : a.eval y = .int .i64 (j : Int)) (hj : j < n)
    (h : K (a.put o.dst (.pointer (some ⟨b, off + j * 18, none⟩))) w) : o.wp Tryd.prog a w K Q :=
  wp_val _ (by simp only [execOp, ho, hx, hy, Sem.run_bind, ixPk b off n cap j hj, Result.andThen_ok, Sem.run_pure]) h
/-- two elements are taken and compared, in whatever order -/
def JEPk (v v' : Value) (j : Nat) (b o b' o' : Nat) (x y : Value) (q : Bool) (U : Value → Value → Value → Value → Value → Value → Value → Value → Value → Value → Act) (S : World → Prop) (d : Nat → Bool) (A : Act) (W : World) : Prop :=
  ∃ u0 u1 u2 u3 u4 u5 u6 u7 u8 u9 : Value, A = U u0 u1 u2 u3 u4 u5 u6 u7 u8 u9 ∧ S W ∧ (d 0 = true → u0 = v) ∧ (d 1 = true → u1 = .int .i64 j) ∧ (d 2 = true → u2 = .pointer (some ⟨b, o, none⟩)) ∧ (d 3 = true → u3 = x) ∧
    (d 4 = true → u4 = v') ∧ (d 5 = true → u5 = .int .i64 j) ∧ (d 6 = true → u6 = .pointer (some ⟨b', o', none⟩)) ∧ (d 7 = true → u7 = y) ∧ (d 8 = true → u8 = .bool q) ∧ (d 9 = true → u9 = .bool !q)
set_option maxHeartbeats 3200000 in
theorem eqRowPk (v v' : Value) (xs ys : List Pk) (q : Nat → Bool) (w : World) (h : Rg 18 pkC w v xs) (h' : Rg 18 pkC w v' ys)
    (hq : ∀ j (h1 : j < xs.length) (h2 : j < ys.length) W, Below w.heap.size w W → Calls Tryd.prog 96 #[(.agg (pkC xs[j]).toArray), (.agg (pkC ys[j]).toArray)] W fun e w' => e = .returned (.bool (q j)) ∧ Below W.heap.size W w') :
   Calls Tryd.prog 51 #[v, v'] w fun e w' => ∃ r, e = .returned (.bool r) ∧ (r = true ↔ xs.length = ys.length ∧ ∀ j, j < xs.length → q j = true) ∧ Below w.heap.size w w' := by
  obtain ⟨a, cap, rfl, h1, h2, h3⟩ := h
  obtain ⟨a', cap', rfl, h1', h2', h3'⟩ := h'
  unfold maxLen at h2 h2'
  have HQ : Hid (∀ j (h1 : j < xs.length) (h2 : j < ys.length) W, Below w.heap.size w W → Calls Tryd.prog 96 #[(.agg (pkC xs[j]).toArray), (.agg (pkC ys[j]).toArray)] W fun e w' => e = .returned (.bool (q j)) ∧ Below W.heap.size W w') := hq
  clear hq
  by_cases hne : xs.length = ys.length
  · obtain ⟨n, hnx⟩ : ∃ n, xs.length = n := ⟨_, rfl⟩
    have hny : ys.length = n := by omega
    have HX : Hid (xs.length = n) := hnx
    have HY : Hid (ys.length = n) := hny
    rw [hnx] at h1
    rw [hny] at h1'
    rw [hnx, hny]
    have hneb : ((n : Int) != (n : Int)) = false := by simp
    clear hne hnx hny
    go_enter Tryd.func51, Tryd.ntmps51
    go_wp2
    go_loopw [5] (fun i wr => ∃ j : Nat, j ≤ n ∧ i = .int .i64 j ∧ Hid (∀ t, t < j → q t = true) ∧ Below w.heap.size w wr) (fun i _ => n - (intOf i).toNat)
    case atStart => exact ⟨0, Nat.zero_le _, rfl, fun t ht => by omega, Below.refl _ _⟩
    case round =>
      obtain ⟨j, hj, rfl, hall, hbr⟩ := hrel
      by_cases hlt : j < n
      · have hjx : j < xs.length := by have h := HX.out; omega
        have hjy : j < ys.length := by have h := HY.out; omega
        rcases h3 with h3 | ⟨b, off, rfl, h4⟩
        · subst h3; simp at hjx
        rcases h3' with h3' | ⟨b', off', rfl, h4'⟩
        · subst h3'; simp at hjy
        have HR : Hid (∀ W, Below w.heap.size w W → W.rangeAt b (off + j * 18) (pkC xs[j])) := fun W hW => rangeAt_below (h4 j hjx) hW (block_lt_of_cell (h4 j hjx 0 _ rfl))
        have HR' : Hid (∀ W, Below w.heap.size w W → W.rangeAt b' (off' + j * 18) (pkC ys[j])) := fun W hW => rangeAt_below (h4' j hjy) hW (block_lt_of_cell (h4' j hjy 0 _ rfl))
        have HE : Hid (∀ W, Below w.heap.size w W → Calls Tryd.prog 96 #[(.agg (pkC xs[j]).toArray), (.agg (pkC ys[j]).toArray)] W fun e w' => e = .returned (.bool (q j)) ∧ Below W.heap.size W w') := fun W hW => HQ.out j hjx hjy W hW
        clear h4 h4' hneb HQ
        go_wp2
        refine region_inv (by kernel_rfl) (by kernel_rfl) (JEPk (.slice (some ⟨b, off, none⟩) n cap) (.slice (some ⟨b', off', none⟩) n cap') j b (off + j * 18) b' (off' + j * 18) (.agg (pkC xs[j]).toArray) (.agg (pkC ys[j]).toArray) (q j) (fun u0 u1 u2 u3 u4' u5' u6 u7 u8 u9 => ⟨#[.slice (some ⟨b, off, none⟩) n cap, .slice (some ⟨b', off', none⟩) n cap', undef, undef, u4, .int .i64 j, .slice (some ⟨b, off, none⟩) n cap, .int .i64 n, .slice (some ⟨b', off', none⟩) n cap', .int .i64 n, .bool false, .int .i64 j, .slice (some ⟨b, off, none⟩) n cap, .int .i64 n, .bool true, u15, u16, u0, u1, u2, u3, u4', u5', u6, u7, u8, u9], []⟩) (Below w.heap.size w)) ⟨_, _, _, _, _, _, _, _, _, _, rfl, hbr.drew, by simp, by simp, by simp, by simp, by simp, by simp, by simp, by simp, by simp, by simp⟩ ⟨?_, ?_, ?_, ?_, ?_, ?_, ?_, ?_, ?_, ?_, trivial⟩ ?_
        · rintro d A W ⟨x0, x1, x2, x3, x4, x5, x6, x7, x8, x9, rfl, I, e0, e1, e2, e3, e4, e5, e6, e7, e8, e9⟩ hn hd
          exact wp_val _ rfl ⟨_, x1, x2, x3, x4, x5, x6, x7, x8, x9, rfl, I, fun _ => rfl, e1, e2, e3, e4, e5, e6, e7, e8, e9⟩
        · rintro d A W ⟨x0, x1, x2, x3, x4, x5, x6, x7, x8, x9, rfl, I, e0, e1, e2, e3, e4, e5, e6, e7, e8, e9⟩ hn hd
          exact wp_val _ rfl ⟨x0, _, x2, x3, x4, x5, x6, x7, x8, x9, rfl, I, e0, fun _ => rfl, e2, e3, e4, e5, e6, e7, e8, e9⟩
        · rintro d A W ⟨x0, x1, x2, x3, x4, x5, x6, x7, x8, x9, rfl, I, e0, e1, e2, e3, e4, e5, e6, e7, e8, e9⟩ hn hd
          obtain rfl := e0 (hd ⟨0, .data⟩ (by simp))
          obtain rfl := e1 (hd ⟨1, .data⟩ (by simp))
          exact ixwPk _ _ rfl b off n cap j rfl rfl hlt ⟨_, _, _, x3, x4, x5, x6, x7, x8, x9, rfl, I, e0, e1, fun _ => rfl, e3, e4, e5, e6, e7, e8, e9⟩
        · rintro d A W ⟨x0, x1, x2, x3, x4, x5, x6, x7, x8, x9, rfl, I, e0, e1, e2, e3, e4, e5, e6, e7, e8, e9⟩ hn hd
          obtain rfl := e2 (hd ⟨2, .data⟩ (by simp))
          exact wp_load_mid 40 _ rfl b (off + j * 18) rfl (pkC xs[j]) _ (HR.out W I) Tryd.underlying40 rfl sizePk ⟨x0, x1, _, _, x4, x5, x6, x7, x8, x9, rfl, I, e0, e1, e2, fun _ => rfl, e4, e5, e6, e7, e8, e9⟩
        · rintro d A W ⟨x0, x1, x2, x3, x4, x5, x6, x7, x8, x9, rfl, I, e0, e1, e2, e3, e4, e5, e6, e7, e8, e9⟩ hn hd
          exact wp_val _ rfl ⟨x0, x1, x2, x3, _, x5, x6, x7, x8, x9, rfl, I, e0, e1, e2, e3, fun _ => rfl, e5, e6, e7, e8, e9⟩
        · rintro d A W ⟨x0, x1, x2, x3, x4, x5, x6, x7, x8, x9, rfl, I, e0, e1, e2, e3, e4, e5, e6, e7, e8, e9⟩ hn hd
          exact wp_val _ rfl ⟨x0, x1, x2, x3, x4, _, x6, x7, x8, x9, rfl, I, e0, e1, e2, e3, e4, fun _ => rfl, e6, e7, e8, e9⟩
        · rintro d A W ⟨x0, x1, x2, x3, x4, x5, x6, x7, x8, x9, rfl, I, e0, e1, e2, e3, e4, e5, e6, e7, e8, e9⟩ hn hd
          obtain rfl := e4 (hd ⟨4, .data⟩ (by simp))
          obtain rfl := e5 (hd ⟨5, .data⟩ (by simp))
          exact ixwPk _ _ rfl b' off' n cap' j rfl rfl hlt ⟨x0, x1, x2, x3, _, _, _, x7, x8, x9, rfl, I, e0, e1, e2, e3, e4, e5, fun _ => rfl, e7, e8, e9⟩
        · rintro d A W ⟨x0, x1, x2, x3, x4, x5, x6, x7, x8, x9, rfl, I, e0, e1, e2, e3, e4, e5, e6, e7, e8, e9⟩ hn hd
          obtain rfl := e6 (hd ⟨6, .data⟩ (by simp))
          exact wp_load_mid 40 _ rfl b' (off' + j * 18) rfl (pkC ys[j]) _ (HR'.out W I) Tryd.underlying40 rfl sizePk ⟨x0, x1, x2, x3, x4, x5, _, _, x8, x9, rfl, I, e0, e1, e2, e3, e4, e5, e6, fun _ => rfl, e8, e9⟩
        · rintro d A W ⟨x0, x1, x2, x3, x4, x5, x6, x7, x8, x9, rfl, I, e0, e1, e2, e3, e4, e5, e6, e7, e8, e9⟩ hn hd
          obtain rfl := e3 (hd ⟨3, .data⟩ (by simp))
          obtain rfl := e7 (hd ⟨7, .data⟩ (by simp))
          refine wp_call 96 #[(.agg (pkC xs[j]).toArray), (.agg (pkC ys[j]).toArray)] (by kernel_rfl) _ (HE.out W I) ?_
          rintro e W' ⟨rfl, hb1⟩
          exact ⟨_, rfl, x0, x1, x2, _, x4, x5, x6, _, _, x9, rfl, belowCall I hb1 I.size, e0, e1, e2, e3, e4, e5, e6, e7, fun _ => rfl, e9⟩
        · rintro d A W ⟨x0, x1, x2, x3, x4, x5, x6, x7, x8, x9, rfl, I, e0, e1, e2, e3, e4, e5, e6, e7, e8, e9⟩ hn hd
          obtain rfl := e8 (hd ⟨8, .data⟩ (by simp))
          exact wp_val _ rfl ⟨x0, x1, x2, x3, x4, x5, x6, x7, _, _, rfl, I, e0, e1, e2, e3, e4, e5, e6, e7, e8, fun _ => rfl⟩
        · rintro d A W ⟨x0, x1, x2, x3, x4, x5, x6, x7, x8, x9, rfl, I, e0, e1, e2, e3, e4, e5, e6, e7, e8, e9⟩ hd
          obtain rfl := e0 (hd 0 (by decide))
          obtain rfl := e1 (hd 1 (by decide))
          obtain rfl := e2 (hd 2 (by decide))
          obtain rfl := e3 (hd 3 (by decide))
          obtain rfl := e4 (hd 4 (by decide))
          obtain rfl := e5 (hd 5 (by decide))
          obtain rfl := e6 (hd 6 (by decide))
          obtain rfl := e7 (hd 7 (by decide))
          obtain rfl := e8 (hd 8 (by decide))
          obtain rfl := e9 (hd 9 (by decide))
          clear e0 e1 e2 e3 e4 e5 e6 e7 e8 e9 hd
          cases heq : q j with
          | false =>
            have hab : Hid (¬ ∀ j, j < n → q j = true) := fun h => by have := h j hlt; rw [heq] at this; cases this
            go_wp2
            go_ret
            exact ⟨_, rfl, ⟨fun h => (by cases h), fun h => absurd (fun j hj => h.2 j hj) hab.out⟩, I⟩
          | true =>
            go_wp2
            go_roundw
            case rel =>
              refine ⟨j + 1, by omega, by go_num, fun t ht => ?_, I⟩
              by_cases hjk : t < j
              · exact hall.out t hjk
              · obtain rfl : t = j := by omega
                exact heq
            case measure => simp [intOf]; omega
      · obtain rfl : j = n := by omega
        clear h3 h3'
        go_wp2
        go_ret
        exact ⟨_, rfl, ⟨fun _ => ⟨by trivial, hall.out⟩, fun _ => rfl⟩, hbr⟩
  · have hneb : ((xs.length : Int) != (ys.length : Int)) = true := by rw [bne_iff_ne]; omega
    have hab : Hid (¬ xs.length = ys.length) := hne
    clear hne h3 h3'
    go_enter Tryd.func51, Tryd.ntmps51
    go_wp2
    go_ret
    exact ⟨_, rfl, ⟨fun h => (by cases h), fun h => absurd h.1 hab.out⟩, Below.refl _ _⟩

theorem eqPkS_t (v v' : Value) (ls : List Pk) (w : World) (h : Rg 18 pkC w v ls) (h' : Rg 18 pkC w v' ls) :
   Calls Tryd.prog 51 #[v, v'] w fun e w' => e = .returned (.bool true) ∧ Below w.heap.size w w' := by
  refine (eqRowPk v v' ls ls (fun _ => true) w h h' ?_).mono ?_
  · intro j g1 g2 W hW
    exact eqPk_t ls[j] W
  · rintro e w' ⟨r, rfl, hr, hb⟩
    obtain rfl : r = true := hr.2 ⟨rfl, fun _ _ => rfl⟩
    exact ⟨rfl, hb⟩

end Go.Proofs.YtkjfcebdjnclaaaDoor
