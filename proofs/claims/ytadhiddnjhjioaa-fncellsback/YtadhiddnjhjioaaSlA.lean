/- Slices of arrays of sixteen bytes, read as their bytes one behind the other; contracts of the laws' helpers that compare, mark and look at them; no condition. -/
import Derived.Test.YtadhiddnjhjioaaXor
import Derived.Test.YtadhiddnjhjioaaSl
import Derived.Test.YtadhiddnjhjioaaReg
import Derived.Deep.MidRow

namespace Go.Proofs.Ytadhiddnjhjioaa
open Go.RowKit Go.ChangeShapes Go.WideShapes Go.ChangeAt
set_option linter.unusedVariables false
set_option linter.unusedSimpArgs false
def bytesOk (zs : List Int) : Prop := ∀ z ∈ zs, 0 ≤ z ∧ z ≤ 255
/-- the slice v of n arrays reads as the bytes zs -/
def RdA (w : World) (v : Value) (n : Nat) (zs : List Int) : Prop :=
  ∃ a cap, v = .slice a n cap ∧ n ≤ cap ∧ cap ≤ maxLen ∧ zs.length = n * 16 ∧ bytesOk zs ∧ (n = 0 ∨ ∃ b off, a = some ⟨b, off, none⟩ ∧ ∀ i, i < n * 16 → w.cell? ⟨b, off + i, none⟩ = some (.int .u8 (zs.getD i 0)))
/-- the slice v of n arrays, among the blocks from base on, owns the bytes zs -/
def OwA (base : Nat) (w : World) (v : Value) (n : Nat) (zs : List Int) : Prop := w.ownsRow base 29 16 v n (zs.map (Value.int .u8)) ∧ bytesOk zs
theorem OwA.len {base : Nat} {w : World} {v : Value} {n : Nat} {zs : List Int} (h : OwA base w v n zs) : zs.length = n * 16 := by simpa using h.1.1
theorem RdA.grown {w w' : World} {v : Value} {n : Nat} {zs : List Int} {row : Option Nat} (h : RdA w v n zs) (hg : w.grownBy w' row) (hne : v.ownBlock = none ∨ v.ownBlock ≠ row) : RdA w' v n zs := by
  obtain ⟨a, cap, rfl, h1, h2, hl, hb, h3⟩ := h
  refine ⟨a, cap, rfl, h1, h2, hl, hb, ?_⟩
  rcases h3 with h3 | ⟨b, off, rfl, h4⟩
  · exact .inl h3
  · refine .inr ⟨b, off, rfl, fun i hi => ?_⟩
    have hc := h4 i hi
    have hlt : b < w.heap.size := block_lt_of_cell hc
    rw [World.cell?_of_block (w := w) (hg.block b hlt (by simpa [Value.ownBlock] using hne))]
    exact hc
theorem RdA.below {w w' : World} {v : Value} {n : Nat} {zs : List Int} (h : RdA w v n zs) (hb : Below w.heap.size w w') : RdA w' v n zs :=
  h.grown (row := none) ⟨hb.os, hb.tape, hb.output, hb.size, fun j hj _ => hb.block j hj⟩ (by cases v.ownBlock <;> simp)
theorem OwA.below {base : Nat} {w w' : World} {v : Value} {n : Nat} {zs : List Int} (h : OwA base w v n zs) (hb : Below w.heap.size w w') : OwA base w' v n zs :=
  ⟨World.ownsRow.kept (row := none) h.1 ⟨hb.os, hb.tape, hb.output, hb.size, fun j hj _ => hb.block j hj⟩ (by cases v.ownBlock <;> simp), h.2⟩
theorem OwA.rd {base : Nat} {w : World} {v : Value} {n : Nat} {zs : List Int} (h : OwA base w v n zs) : RdA w v n zs := by
  have hl := h.len
  rcases h.1.2 with ⟨rfl, hn⟩ | ⟨g, cap, cur, rfl, hb, hg, hnc, hcm, hcs, ht⟩
  · exact ⟨none, 0, by rw [hn], by omega, by simp, hl, h.2, .inl hn⟩
  · refine ⟨_, cap, rfl, hnc, hcm, hl, h.2, .inr ⟨g, 0, rfl, fun i hi => ?_⟩⟩
    have := World.ownsRow.cellAt h.1 i (by omega)
    rw [Nat.zero_add, this]
    simp [List.getElem?_eq_getElem (show i < zs.length by omega)]
theorem ownA_ne {base base' : Nat} {e : TypeId} {size n n' : Nat} {w w' : World} {v v' : Value} {xs xs' : List Value} {e' : TypeId} {size' : Nat} (h : w.ownsRow base e size v n xs) (h' : w'.ownsRow base' e' size' v' n' xs') (hb : w.heap.size ≤ base') :
    (v.ownBlock = none ∨ v.ownBlock ≠ v'.ownBlock) ∧ (v'.ownBlock = none ∨ v'.ownBlock ≠ v.ownBlock) := by
  have key : ∀ j, v.ownBlock = some j → v'.ownBlock = some j → False := by
    intro j h1 h2
    have h1 := World.ownsRow.lt h j h1
    have h2 := World.ownsRow.lt h' j h2
    omega
  constructor
  · cases hv : v.ownBlock with
    | none => exact .inl rfl
    | some j => exact .inr fun e => key j hv e.symm
  · cases hv : v'.ownBlock with
    | none => exact .inl rfl
    | some j => exact .inr fun e => key j e.symm hv
/-- the j-th array of the bytes -/
def ch (zs : List Int) (j : Nat) : List Int := (zs.drop (j * 16)).take 16
theorem ch_B {zs : List Int} {n : Nat} (hl : zs.length = n * 16) (hb : bytesOk zs) (j : Nat) (hj : j < n) : B16 (ch zs j) :=
  ⟨by simp [ch]; omega, fun z hz => hb z (List.mem_of_mem_drop (List.mem_of_mem_take hz))⟩
theorem ch_at (zs : List Int) (j i : Nat) (hi : i < 16) : (ch zs j).getD i 0 = zs.getD (j * 16 + i) 0 := by
  simp [ch, List.getElem?_take, hi, List.getElem?_drop]
theorem ch_ext {xs ys : List Int} {n : Nat} (hx : xs.length = n * 16) (hy : ys.length = n * 16) (h : ∀ j, j < n → ch xs j = ch ys j) : xs = ys := by
  apply ext_getD (by omega)
  intro i hi
  have h1 : (ch xs (i / 16)).getD (i % 16) 0 = (ch ys (i / 16)).getD (i % 16) 0 := by rw [h (i / 16) (by omega)]
  rw [ch_at _ _ _ (Nat.mod_lt _ (by decide)), ch_at _ _ _ (Nat.mod_lt _ (by decide)), show i / 16 * 16 + i % 16 = i by omega] at h1
  exact h1
theorem range_ch {w : World} {b off n : Nat} {zs : List Int} (hl : zs.length = n * 16) (h4 : ∀ i, i < n * 16 → w.cell? ⟨b, off + i, none⟩ = some (.int .u8 (zs.getD i 0))) (j : Nat) (hj : j < n) (o : Nat) (ho : o = off + j * 16) :
    w.rangeAt b o ((ch zs j).map (Value.int .u8)) := by
  subst ho
  intro i v hv
  have hlen : (ch zs j).length = 16 := by simp [ch]; omega
  have hi : i < 16 := by
    have := (List.getElem?_eq_some_iff.1 hv).1
    simp at this; omega
  have h5 := h4 (j * 16 + i) (by omega)
  rw [show off + j * 16 + i = off + (j * 16 + i) by omega, h5, ← ch_at zs j i hi]
  simp [List.getElem?_eq_getElem (show i < (ch zs j).length by omega)] at hv ⊢
  exact hv
theorem idxA (b off n cap j : Nat) (hj : j < n) (W : World) : (Instr.indexAt 25 (.slice (some ⟨b, off, none⟩) n cap) (.int .i64 (j : Int))).run Try.prog W = .ok (.pointer (some ⟨b, off + j * 16, none⟩)) W := by
  have hs : (sizeOf 29).run Try.prog W = .ok 16 W := by simp [sizeOf, typeInfo, Sem.run_bind]; cases hq : Try.prog.info? 29 with
    | none => have := size29; rw [hq] at this; cases this
    | some i => have := size29; rw [hq] at this; simp at this; simp [this]
  have hji : (j : Int) < (n : Int) := by omega
  have hn : ¬ n ≤ j := by omega
  have hadd : (⟨b, off, none⟩ : Addr).add (j * 16) = ⟨b, off + j * 16, none⟩ := by unfold Addr.add; split <;> simp_all
  simp [Instr.indexAt, asIntOf, run_underlying Try.underlying25, hji, hs, hadd, hn]
theorem wp_idxA {o : Oper} {a : Act} {w : World} {K : Act → World → Prop} {Q : Exit → Act → World → Prop} (x y : Operand) (ho : o.op = .indexAddr 25 x y) (b off n cap j : Nat) (hx : a.eval x = .slice (some ⟨b, off, none⟩) n cap) (hy : a.eval y = .int .i64 (j : Int)) (hj : j < n)
    (h : K (a.put o.dst (.pointer (some ⟨b, off + j * 16, none⟩))) w) : o.wp Try.prog a w K Q :=
  wp_val _ (by simp only [execOp, ho, hx, hy, Sem.run_bind, idxA b off n cap j hj, Result.andThen_ok, Sem.run_pure]) h
def JA (v v' : Value) (j : Nat) (b o b' o' : Nat) (x y : List Int) (U : Value → Value → Value → Value → Value → Value → Value → Value → Value → Value → Act) (S : World → Prop) (d : Nat → Bool) (A : Act) (W : World) : Prop :=
  ∃ u0 u1 u2 u3 u4 u5 u6 u7 u8 u9 : Value, A = U u0 u1 u2 u3 u4 u5 u6 u7 u8 u9 ∧ S W ∧ (d 0 = true → u0 = v) ∧ (d 1 = true → u1 = .int .i64 j) ∧ (d 2 = true → u2 = .pointer (some ⟨b, o, none⟩)) ∧ (d 3 = true → u3 = .agg (A16 x)) ∧
    (d 4 = true → u4 = v') ∧ (d 5 = true → u5 = .int .i64 j) ∧ (d 6 = true → u6 = .pointer (some ⟨b', o', none⟩)) ∧ (d 7 = true → u7 = .agg (A16 y)) ∧ (d 8 = true → u8 = .bool (eq16 x y)) ∧ (d 9 = true → u9 = .bool !(eq16 x y))
set_option maxHeartbeats 1600000 in
theorem eqA (v v' : Value) (n n' : Nat) (xs ys : List Int) (w : World) (h : RdA w v n xs) (h' : RdA w v' n' ys) :
   Calls Try.prog 32 #[v, v'] w fun e w' => e = .returned (.bool (decide (xs = ys))) ∧ Below w.heap.size w w' := by
  obtain ⟨a, cap, rfl, h1, h2, hl, hbx, h3⟩ := h
  obtain ⟨a', cap', rfl, h1', h2', hl', hby, h3'⟩ := h'
  unfold maxLen at h2 h2'
  by_cases hne : n = n'
  · subst hne
    have hneb : ((n : Int) != (n : Int)) = false := by simp
    go_enter Try.func32, Try.ntmps32
    go_wp2
    go_loopw [5] (fun i wr => ∃ j : Nat, j ≤ n ∧ i = .int .i64 j ∧ Hid (∀ t, t < j → ch xs t = ch ys t) ∧ Below w.heap.size w wr) (fun i _ => n - (intOf i).toNat)
    case atStart => exact ⟨0, Nat.zero_le _, rfl, fun t ht => by omega, Below.refl _ _⟩
    case round =>
      obtain ⟨j, hj, rfl, hall, hbr⟩ := hrel
      by_cases hlt : j < n
      · rcases h3 with h3 | ⟨b, off, rfl, h4⟩
        · omega
        rcases h3' with h3' | ⟨b', off', rfl, h4'⟩
        · omega
        have hX := ch_B hl hbx j hlt
        have hY := ch_B hl' hby j hlt
        have hi : (0 : Int) ≤ (j : Int) := by omega
        have hi2 : (j : Int) < (n : Int) := by omega
        have hx16 : ((ch xs j).map (Value.int .u8)).length = 16 := by simp [hX.1]
        have hy16 : ((ch ys j).map (Value.int .u8)).length = 16 := by simp [hY.1]
        have hr : ∀ W, Below w.heap.size w W → W.rangeAt b (off + j * 16) ((ch xs j).map (Value.int .u8)) := fun W hW => range_ch hl (fun i hi => by have := h4 i hi; rw [hW.cell (block_lt_of_cell this)]; exact this) j hlt _ rfl
        have hr' : ∀ W, Below w.heap.size w W → W.rangeAt b' (off' + j * 16) ((ch ys j).map (Value.int .u8)) := fun W hW => range_ch hl' (fun i hi => by have := h4' i hi; rw [hW.cell (block_lt_of_cell this)]; exact this) j hlt _ rfl
        have HR : Hid (∀ W, Below w.heap.size w W → W.rangeAt b (off + j * 16) ((ch xs j).map (Value.int .u8))) := hr
        have HR' : Hid (∀ W, Below w.heap.size w W → W.rangeAt b' (off' + j * 16) ((ch ys j).map (Value.int .u8))) := hr'
        clear h4 h4' hr hr' hneb
        go_wp2
        refine region_inv (by kernel_rfl) (by kernel_rfl) (JA (.slice (some ⟨b, off, none⟩) n cap) (.slice (some ⟨b', off', none⟩) n cap') j b (off + j * 16) b' (off' + j * 16) (ch xs j) (ch ys j) (fun u0 u1 u2 u3 u4' u5' u6 u7 u8 u9 => ⟨#[.slice (some ⟨b, off, none⟩) n cap, .slice (some ⟨b', off', none⟩) n cap', undef, undef, u4, .int .i64 j, .slice (some ⟨b, off, none⟩) n cap, .int .i64 n, .slice (some ⟨b', off', none⟩) n cap', .int .i64 n, .bool false, .int .i64 j, .slice (some ⟨b, off, none⟩) n cap, .int .i64 n, .bool true, u15, u16, u0, u1, u2, u3, u4', u5', u6, u7, u8, u9], []⟩) (Below w.heap.size w)) ⟨_, _, _, _, _, _, _, _, _, _, rfl, hbr.drew, by simp, by simp, by simp, by simp, by simp, by simp, by simp, by simp, by simp, by simp⟩ ⟨?_, ?_, ?_, ?_, ?_, ?_, ?_, ?_, ?_, ?_, trivial⟩ ?_
        · rintro d A W ⟨x0, x1, x2, x3, x4, x5, x6, x7, x8, x9, rfl, I, e0, e1, e2, e3, e4, e5, e6, e7, e8, e9⟩ hn hd
          exact wp_val _ rfl ⟨_, x1, x2, x3, x4, x5, x6, x7, x8, x9, rfl, I, fun _ => rfl, e1, e2, e3, e4, e5, e6, e7, e8, e9⟩
        · rintro d A W ⟨x0, x1, x2, x3, x4, x5, x6, x7, x8, x9, rfl, I, e0, e1, e2, e3, e4, e5, e6, e7, e8, e9⟩ hn hd
          exact wp_val _ rfl ⟨x0, _, x2, x3, x4, x5, x6, x7, x8, x9, rfl, I, e0, fun _ => rfl, e2, e3, e4, e5, e6, e7, e8, e9⟩
        · rintro d A W ⟨x0, x1, x2, x3, x4, x5, x6, x7, x8, x9, rfl, I, e0, e1, e2, e3, e4, e5, e6, e7, e8, e9⟩ hn hd
          obtain rfl := e0 (hd ⟨0, .data⟩ (by simp))
          obtain rfl := e1 (hd ⟨1, .data⟩ (by simp))
          exact wp_idxA _ _ rfl b off n cap j rfl rfl hlt ⟨_, _, _, x3, x4, x5, x6, x7, x8, x9, rfl, I, e0, e1, fun _ => rfl, e3, e4, e5, e6, e7, e8, e9⟩
        · rintro d A W ⟨x0, x1, x2, x3, x4, x5, x6, x7, x8, x9, rfl, I, e0, e1, e2, e3, e4, e5, e6, e7, e8, e9⟩ hn hd
          obtain rfl := e2 (hd ⟨2, .data⟩ (by simp))
          exact wp_load_mid 29 _ rfl b (off + j * 16) rfl ((ch xs j).map (Value.int .u8)) _ (HR.out W I) Try.underlying29 rfl (by rw [hx16]; exact size29) ⟨x0, x1, _, _, x4, x5, x6, x7, x8, x9, rfl, I, e0, e1, e2, fun _ => rfl, e4, e5, e6, e7, e8, e9⟩
        · rintro d A W ⟨x0, x1, x2, x3, x4, x5, x6, x7, x8, x9, rfl, I, e0, e1, e2, e3, e4, e5, e6, e7, e8, e9⟩ hn hd
          exact wp_val _ rfl ⟨x0, x1, x2, x3, _, x5, x6, x7, x8, x9, rfl, I, e0, e1, e2, e3, fun _ => rfl, e5, e6, e7, e8, e9⟩
        · rintro d A W ⟨x0, x1, x2, x3, x4, x5, x6, x7, x8, x9, rfl, I, e0, e1, e2, e3, e4, e5, e6, e7, e8, e9⟩ hn hd
          exact wp_val _ rfl ⟨x0, x1, x2, x3, x4, _, x6, x7, x8, x9, rfl, I, e0, e1, e2, e3, e4, fun _ => rfl, e6, e7, e8, e9⟩
        · rintro d A W ⟨x0, x1, x2, x3, x4, x5, x6, x7, x8, x9, rfl, I, e0, e1, e2, e3, e4, e5, e6, e7, e8, e9⟩ hn hd
          obtain rfl := e4 (hd ⟨4, .data⟩ (by simp))
          obtain rfl := e5 (hd ⟨5, .data⟩ (by simp))
          exact wp_idxA _ _ rfl b' off' n cap' j rfl rfl hlt ⟨x0, x1, x2, x3, _, _, _, x7, x8, x9, rfl, I, e0, e1, e2, e3, e4, e5, fun _ => rfl, e7, e8, e9⟩
        · rintro d A W ⟨x0, x1, x2, x3, x4, x5, x6, x7, x8, x9, rfl, I, e0, e1, e2, e3, e4, e5, e6, e7, e8, e9⟩ hn hd
          obtain rfl := e6 (hd ⟨6, .data⟩ (by simp))
          exact wp_load_mid 29 _ rfl b' (off' + j * 16) rfl ((ch ys j).map (Value.int .u8)) _ (HR'.out W I) Try.underlying29 rfl (by rw [hy16]; exact size29) ⟨x0, x1, x2, x3, x4, x5, _, _, x8, x9, rfl, I, e0, e1, e2, e3, e4, e5, e6, fun _ => rfl, e8, e9⟩
        · rintro d A W ⟨x0, x1, x2, x3, x4, x5, x6, x7, x8, x9, rfl, I, e0, e1, e2, e3, e4, e5, e6, e7, e8, e9⟩ hn hd
          obtain rfl := e3 (hd ⟨3, .data⟩ (by simp))
          obtain rfl := e7 (hd ⟨7, .data⟩ (by simp))
          refine wp_call 30 #[.agg (A16 (ch xs j)), .agg (A16 (ch ys j))] (by kernel_rfl) _ (eq_16 _ _ hX hY W) ?_
          rintro e W' ⟨rfl, hb1⟩
          exact ⟨_, rfl, x0, x1, x2, _, x4, x5, x6, _, _, x9, rfl, belowCall I hb1 I.size, e0, e1, e2, e3, e4, e5, e6, e7, fun _ => rfl, e9⟩
        · rintro d A W ⟨x0, x1, x2, x3, x4, x5, x6, x7, x8, x9, rfl, I, e0, e1, e2, e3, e4, e5, e6, e7, e8, e9⟩ hn hd
          obtain rfl := e8 (hd ⟨8, .data⟩ (by simp))
          exact wp_val _ rfl ⟨x0, x1, x2, x3, x4, x5, x6, x7, _, _, rfl, I, e0, e1, e2, e3, e4, e5, e6, e7, e8, fun _ => rfl⟩
        · rintro d A W ⟨x0, x1, x2, x3, x4, x5, x6, x7, x8, x9, rfl, I, e0, e1, e2, e3, e4, e5, e6, e7, e8, e9⟩ hd
          obtain rfl := e0 (hd 0 (by decide))
          obtain rfl := e1 (hd 1 (by decide))
          obtain rfl := e2 (hd 2 (by decide))
          obtain rfl := e3 (hd 3 (by decide))
          obtain rfl := e4 (hd 4 (by decide))
          obtain rfl := e5 (hd 5 (by decide))
          obtain rfl := e6 (hd 6 (by decide))
          obtain rfl := e7 (hd 7 (by decide))
          obtain rfl := e8 (hd 8 (by decide))
          obtain rfl := e9 (hd 9 (by decide))
          clear e0 e1 e2 e3 e4 e5 e6 e7 e8 e9 hd
          cases heq : eq16 (ch xs j) (ch ys j) with
          | false =>
            have hab : decide (xs = ys) = false := by
              simp only [decide_eq_false_iff_not]
              intro h; subst h; simp [eq16] at heq
            go_wp2
            go_ret
            exact ⟨by rw [hab]; rfl, I⟩
          | true =>
            have hcc : ch xs j = ch ys j := by simpa [eq16] using heq
            have HCC : Hid (ch xs j = ch ys j) := hcc
            clear hcc
            go_wp2
            go_roundw
            case rel =>
              refine ⟨j + 1, by omega, by go_num, fun t ht => ?_, I⟩
              by_cases hjk : t < j
              · exact hall.out t hjk
              · obtain rfl : t = j := by omega
                exact HCC.out
            case measure => simp [intOf]; omega
      · obtain rfl : j = n := by omega
        have hab : decide (xs = ys) = true := by simp only [decide_eq_true_eq]; exact ch_ext hl hl' hall.out
        clear h3 h3'
        go_wp2
        go_ret
        exact ⟨by rw [hab]; rfl, hbr⟩
  · have hneb : ((n : Int) != (n' : Int)) = true := by rw [bne_iff_ne]; omega
    have hab : decide (xs = ys) = false := by
      simp only [decide_eq_false_iff_not]
      intro h; subst h; omega
    clear hne h3 h3'
    go_enter Try.func32, Try.ntmps32
    go_wp2
    go_ret
    exact ⟨by rw [hab]; rfl, Below.refl _ _⟩
theorem eqAS (v v' : Value) (n n' : Nat) (xs : List Int) (w : World) (h : RdA w v n xs) (h' : RdA w v' n' xs) :
   Calls Try.prog 32 #[v, v'] w fun e w' => e = .returned (.bool true) ∧ Below w.heap.size w w' :=
  (eqA v v' n n' xs xs w h h').mono fun e w' he => ⟨by rw [he.1]; simp, he.2⟩
end Go.Proofs.Ytadhiddnjhjioaa
