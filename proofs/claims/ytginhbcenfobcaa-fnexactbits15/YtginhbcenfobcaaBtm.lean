/- Bits15, as the specification has it; no condition. -/
import Derived.Test.YtginhbcenfobcaaBta
import Derived.Test.YtginhbcenfobcaaGnm
import Derived.Test.YtginhbcenfobcaaInv
namespace Go.Proofs.Ytginhbcenfobcaa
open Go.RowKit Go.ChangeShapes Go.WideShapes Go.ChangeAt
set_option linter.unusedVariables false
set_option linter.unusedSimpArgs false
set_option maxRecDepth 8000

theorem ow_ne_blk {base X : Nat} {w : World} {v : Value} {zs : List Int} {cs : Array Value} {t : TypeId} (h : Ow .i64 3 base w v zs) (hk : Blk w X cs t) (ht : t ≠ 3) : v.ownBlock = none ∨ v.ownBlock ≠ some X := by
  rcases h.2 with ⟨rfl, -⟩ | ⟨g, cap, cur, rfl, -, hg, -⟩
  · exact .inl rfl
  · refine .inr fun e => ?_
    simp [Value.ownBlock] at e
    subst e
    rw [Blk] at hk
    rw [hk] at hg
    simp at hg
    exact ht hg.2
theorem appI2g {ops : Array Oper} {rest : List Oper} {o : Oper} {a : Act} {w : World} {Q : Exit → Act → World → Prop} (hgd : o.guard = none) (s x : Operand)
    (ho : o.op = .call { callee := .builtin .append, args := #[s, x], argTypes := #[24, 24] }) (base : Nat) (v : Value) (zs : List Int) (hs : a.eval s = v) (hown : Ow .i64 3 base w v zs)
    (g : Nat) (z1 z2 : Int) (hx : a.eval x = .slice (some ⟨g, 0, none⟩) 2 2) (hk : Blk w g #[.int .i64 z1, .int .i64 z2] 3) (hl : zs.length ≤ 1099511627776) (hbase : base ≤ w.heap.size)
    (h : ∀ v' w', Ow .i64 3 base w' v' (zs ++ [z1, z2]) → w.grownBy w' v.ownBlock → wpList Try.prog ops Q rest (a.put o.dst v') w') : wpList Try.prog ops Q (o :: rest) a w := by
  obtain ⟨i0, hi, hz0, hz1, hz2⟩ := info_parts toIInfo
  refine wpList_append_own w hgd s x 24 ho base 3 i0 (.int .i64 0) 1 8 Try.underlying24 hi hz0 hz1 hz2 rfl (by decide) v zs.length (zs.map (Value.int .i64)) hs hown ⟨g, 0, none⟩ 2 2 [.int .i64 z1, .int .i64 z2] hx rfl ?_ ?_ ?_ ?_ hbase ?_
  · intro j u hj
    rw [addr_add, hk.cell]
    simpa using hj
  · intro u hu; simp at hu; rcases hu with rfl | rfl <;> rfl
  · unfold maxLen; omega
  · omega
  · intro v' w' h1 h2 h3
    refine h v' w' ?_ h2
    simpa [Ow] using h1
/-- what is done of a list behind i of it -/
def prS (ls : List (Nat × Nat)) (pl i : Nat) : List (Nat × Nat) := ls.take (min i pl) ++ (ls.drop (pl + 26)).take (i - (pl + 26))
theorem prS_in {ls : List (Nat × Nat)} {pl i : Nat} (h1 : pl ≤ i) (h2 : i < pl + 26) : prS ls pl (i + 1) = prS ls pl i := by
  unfold prS; rw [show min (i + 1) pl = min i pl by omega, show i + 1 - (pl + 26) = i - (pl + 26) by omega]
theorem prS_out {ls : List (Nat × Nat)} {pl i : Nat} (hi : i < ls.length) (h : i < pl ∨ pl + 26 ≤ i) : prS ls pl (i + 1) = prS ls pl i ++ [ls[i]] := by
  unfold prS
  rcases h with h | h
  · rw [show min (i + 1) pl = i + 1 by omega, show min i pl = i by omega, show i + 1 - (pl + 26) = 0 by omega, show i - (pl + 26) = 0 by omega]
    simp
  · rw [show min (i + 1) pl = pl by omega, show min i pl = pl by omega, show i + 1 - (pl + 26) = (i - (pl + 26)) + 1 by omega, List.append_assoc]
    congr 1
    have hl : i - (pl + 26) < (ls.drop (pl + 26)).length := by simp; omega
    rw [← List.take_append_getElem hl]
    congr 2
    rw [List.getElem_drop]
    congr 1
    omega
theorem prS_end {ls : List (Nat × Nat)} {pl : Nat} (h : pl + 26 ≤ ls.length) : prS ls pl ls.length = ls.take pl ++ ls.drop (pl + 26) := by
  unfold prS
  rw [show min ls.length pl = pl by omega, show (ls.drop (pl + 26)).take (ls.length - (pl + 26)) = ls.drop (pl + 26) from List.take_of_length_le (by simp)]
theorem prS_mem {ls : List (Nat × Nat)} {pl i : Nat} {x : Nat × Nat} (h : x ∈ prS ls pl i) : x ∈ ls.take pl ++ ls.drop (pl + 26) := by
  unfold prS at h
  rcases List.mem_append.1 h with h | h
  · refine List.mem_append_left _ ?_
    have : ls.take (min i pl) = (ls.take pl).take (min i pl) := by rw [List.take_take]; congr 1; omega
    rw [this] at h; exact List.mem_of_mem_take h
  · exact List.mem_append_right _ (List.mem_of_mem_take h)
theorem btB_mem {ls : List (Nat × Nat)} {x : Nat × Nat} (hx : x ∈ restS ls) (h : bq (gnF pXR ls) (gnF pXI ls) x = none) : btB ls = false := by
  obtain ⟨k, hk, rfl⟩ := List.getElem_of_mem hx
  exact btB_no k hk h
structure Rbm (Wd : World) (sl : Value) (jv : Int) (b : Nat) (of : Nat) (p : Nat) (r : Nat) (u : Nat) (qq : Nat) (U : Option Nat) (Q : Option Nat) (d : Nat → Bool) (W : World) (v0 v1 v2 v3 v4 v5 v6 v7 v8 v9 v10 v11 v12 : Value) (x1 : Nat) (y1 : Nat) (x : Nat) (y : Nat) (ok : Bool) (X : Nat) : Prop where
  bel : Below Wd.heap.size Wd W
  f0 : d 0 = true → v0 = sl
  f1 : d 1 = true → v1 = .int .i64 jv
  f2 : d 2 = true → v2 = .pointer (some ⟨b, of, none⟩)
  f3 : d 3 = true → v3 = .agg #[.float .f32 p, .float .f32 r]
  f4 : d 4 = true → v4 = .agg #[.float .f64 x1, .float .f64 y1]
  hw : d 4 = true → fc .f64 x1 = (fc .f32 p).map wid ∧ fc .f64 y1 = (fc .f32 r).map wid
  f5 : d 5 = true → v5 = .agg #[.float .f64 u, .float .f64 qq]
  f6 : d 6 = true → v6 = .tuple #[.agg #[.float .f64 x, .float .f64 y], .bool ok]
  hq : d 6 = true → bq U Q (p, r) = if ok = true then some (bitF (fc .f64 x), bitF (fc .f64 y)) else none
  f7 : d 7 = true → v7 = .tuple #[.agg #[.float .f64 x, .float .f64 y], .bool ok]
  f8 : d 8 = true → v8 = .agg #[.float .f64 x, .float .f64 y]
  f9 : d 9 = true → v9 = .bool ok
  f10 : d 10 = true → v10 = .pointer (some ⟨X, 0, none⟩)
  k10 : d 10 = true → d 11 = false → Blk W X #[.float .f64 0, .float .f64 0] 38
  x10 : d 10 = true → Wd.heap.size ≤ X
  k11 : d 11 = true → Blk W X #[.float .f64 x, .float .f64 y] 38
  f12 : d 12 = true → v12 = .bool ok
  g7_6 : d 7 = true → d 6 = true
  g8_6 : d 8 = true → d 6 = true
  g9_6 : d 9 = true → d 6 = true
  g11_6 : d 11 = true → d 6 = true
  g11_10 : d 11 = true → d 10 = true
  g12_6 : d 12 = true → d 6 = true
def RbmS (Wd : World) (sl : Value) (jv : Int) (b : Nat) (of : Nat) (p : Nat) (r : Nat) (u : Nat) (qq : Nat) (U : Option Nat) (Q : Option Nat) (d : Nat → Bool) (q : List Value) (W : World) : Prop := ∃ v0 v1 v2 v3 v4 v5 v6 v7 v8 v9 v10 v11 v12 x1 y1 x y ok X, q = [v0, v1, v2, v3, v4, v5, v6, v7, v8, v9, v10, v11, v12] ∧ Rbm Wd sl jv b of p r u qq U Q d W v0 v1 v2 v3 v4 v5 v6 v7 v8 v9 v10 v11 v12 x1 y1 x y ok X
theorem Rbm.below {Wd : World} {sl : Value} {jv : Int} {b : Nat} {of : Nat} {p : Nat} {r : Nat} {u : Nat} {qq : Nat} {U : Option Nat} {Q : Option Nat} {d : Nat → Bool} {W W' : World} {v0 v1 v2 v3 v4 v5 v6 v7 v8 v9 v10 v11 v12 : Value} {x1 : Nat} {y1 : Nat} {x : Nat} {y : Nat} {ok : Bool} {X : Nat} (h : Rbm Wd sl jv b of p r u qq U Q d W v0 v1 v2 v3 v4 v5 v6 v7 v8 v9 v10 v11 v12 x1 y1 x y ok X) (hb : Below W.heap.size W W') : Rbm Wd sl jv b of p r u qq U Q d W' v0 v1 v2 v3 v4 v5 v6 v7 v8 v9 v10 v11 v12 x1 y1 x y ok X :=
  { h with
    bel := belowCall h.bel hb h.bel.size
    k10 := fun e0 e1 => (h.k10 e0 e1).below hb (h.k10 e0 e1).lt
    k11 := fun e0 => (h.k11 e0).below hb (h.k11 e0).lt
  }

set_option maxHeartbeats 25600000 in
theorem bitsM_c (v : Value) (ls : List (Nat × Nat)) (w : World) (h : Rg 2 smC w v ls) : Calls Try.prog 33 #[v] w (BtR ls w) := by
  have hsf := storeF
  have HR : Hid (Rg 2 smC w v ls) := h
  obtain ⟨a, cap, rfl, h1, h2, h3⟩ := h
  unfold maxLen at h2
  obtain ⟨B0, hB0⟩ : ∃ P, w.heap.size = P := ⟨_, rfl⟩
  have HP : Hid (w.heap.size = B0) := hB0
  obtain ⟨W0, hW0⟩ : ∃ W, w.alloc (Obj.cells #[] 3) = W := ⟨_, rfl⟩
  have HW0 : Hid (w.alloc (Obj.cells #[] 3) = W0) := hW0
  have HB0 : Hid (Below w.heap.size w W0) := by rw [← hW0]; exact (Below.refl _ _).alloc (Nat.le_refl _) _
  have HO0 : Hid (Ow .i64 3 w.heap.size W0 (.slice (some ⟨w.heap.size, 0, none⟩) 0 0) []) := by rw [← hW0]; exact Ow.empty .i64 3 _ w (Nat.le_refl _)
  rw [hB0] at HO0
  clear hW0 hB0
  go_enter Try.func33, Try.ntmps33
  go_wp2_with (fail)
  rw [HW0.out]
  refine (gainM_c _ ls W0 (HR.out.below HB0.out)).mono ?_
  rintro e w1 ⟨u, qq, rfl, hu, hq, hul, b1⟩
  rw [HP.out]
  have HF : Hid (fc .f64 u = gnF pXR ls ∧ fc .f64 qq = gnF pXI ls) := ⟨hu, hq⟩
  have HUL : Hid (u < 2 ^ 64 ∧ qq < 2 ^ 64) := hul
  obtain ⟨W1, hW1⟩ : ∃ W, w1.alloc (Obj.cells #[.float .f64 u, .float .f64 qq] 38) = W := ⟨_, rfl⟩
  have HW1 : Hid (w1.alloc (Obj.cells #[.float .f64 u, .float .f64 qq] 38) = W1) := hW1
  have b01 : Below W0.heap.size W0 W1 := by rw [← hW1]; exact b1.alloc b1.size _
  have HB1 : Hid (Below w.heap.size w W1) := belowCall HB0.out b01 HB0.out.size
  have HK1 : Hid (Blk W1 w1.heap.size #[.float .f64 u, .float .f64 qq] 38) := by rw [← hW1]; exact Blk.new _ _ _
  have HO1 : Hid (Ow .i64 3 B0 W1 (.slice (some ⟨B0, 0, none⟩) 0 0) []) := HO0.out.below b01
  obtain ⟨X, hX⟩ : ∃ X, w1.heap.size = X := ⟨_, rfl⟩
  have HXX : Hid (w1.heap.size = X) := hX
  rw [hX] at HK1
  clear hu hq hul b1 hW1 hX b01 HO0 HB0
  have HG : Hid (btB ls = (gnB ls && (restS ls).all fun p => (bq (gnF pXR ls) (gnF pXI ls) p).isSome)) := rfl
  obtain ⟨gb, hgb⟩ : ∃ x, gnB ls = x := ⟨_, rfl⟩
  rw [hgb]
  have HGB : Hid (gnB ls = gb) := hgb
  clear hgb
  cases gb with
  | false =>
    have HBF : Hid (btB ls = false) := by show _ = _; rw [HG.out, HGB.out]; rfl
    clear h3
    go_wp2
    rw [HW1.out]
    go_ret2
    exact ⟨_, by rw [HBF.out]; rfl, by rw [bt_no HBF.out, HP.out]; exact HO1.out, HB1.out⟩
  | true =>
  have hl := HGB.out
  unfold gnB at hl
  rw [Bool.and_eq_true, decide_eq_true_eq, decide_eq_true_eq] at hl
  have l0 : 27 ≤ ls.length := by have := hl.1; omega
  have l1 : ls.length ≤ 200 := by have := hl.2; omega
  rcases h3 with h3 | ⟨b, off, rfl, h4⟩
  · subst h3; simp at l0
  obtain ⟨pl, hpl⟩ : ∃ pl : Nat, gnH ls = pl := ⟨_, rfl⟩
  have hdv : ((ls.length : Int) - 26).tdiv 2 = (pl : Int) := by rw [Int.tdiv_eq_ediv_of_nonneg (by omega), ← hpl]; unfold gnH; omega
  have hb : pl + 26 < ls.length := by rw [← hpl]; unfold gnH; omega
  have HRS : Hid (restS ls = ls.take pl ++ ls.drop (pl + 26)) := by show _ = _; unfold restS; rw [hpl]
  have HC : Hid (∀ W j (hj : j < ls.length), Below w.heap.size w W → W.cell? ⟨b, off + j * 2, none⟩ = some (.float .f32 ls[j].1) ∧ W.cell? ⟨b, off + j * 2 + 1, none⟩ = some (.float .f32 ls[j].2)) := fun W j hj hW => by
    have hcb : b < w.heap.size := block_lt_of_cell (h4 j hj 0 _ rfl)
    have hc := rangeAt_below (h4 j hj) hW hcb
    exact ⟨hc 0 _ rfl, hc 1 _ rfl⟩
  obtain ⟨n, hn⟩ : ∃ n, ls.length = n := ⟨_, rfl⟩
  have HN : Hid (ls.length = n) := hn
  have HO1' : Hid (Ow .i64 3 B0 W1 (.slice (some ⟨B0, 0, none⟩) 0 0) (bqL (gnF pXR ls) (gnF pXI ls) (prS ls pl 0))) := by
    have : prS ls pl 0 = [] := by unfold prS; simp
    show Ow .i64 3 B0 W1 _ _
    rw [this]; exact HO1.out
  rw [hn] at hdv hb l0 l1 h1 ⊢
  clear hl hpl h4 hn HO1
  go_wp2
  rw [HW1.out, HXX.out]
  go_loopw [4, 8] (fun o i wr => ∃ (j : Nat) (o' : Value), j ≤ n ∧ i = .int .i64 j ∧ o' = o ∧ Hid (Ow .i64 3 B0 wr o' (bqL (gnF pXR ls) (gnF pXI ls) (prS ls pl j))) ∧ Hid (∀ x ∈ prS ls pl j, (bq (gnF pXR ls) (gnF pXI ls) x).isSome = true) ∧ Hid (Blk wr X #[.float .f64 u, .float .f64 qq] 38) ∧ Hid (Below w.heap.size w wr)) (fun _ i _ => n - (intOf i).toNat)
  case atStart => exact ⟨0, _, by omega, rfl, rfl, HO1'.out, fun x hx => by unfold prS at hx; simp at hx, HK1.out, HB1.out⟩
  case round =>
    obtain ⟨j, o', hj, rfl, ho', hO, hA, hK, hB⟩ := hrel
    subst ho'
    clear HO1' HK1 HB1
    by_cases hlt : j < n
    case neg =>
      obtain rfl : j = n := by omega
      have hpe : prS ls pl j = restS ls := by rw [HRS.out, ← HN.out]; exact prS_end (by have := HN.out; omega)
      have HBT : Hid (btB ls = true) := by
        show _ = _
        refine btB_all HGB.out (fun k hk => hA.out _ ?_)
        rw [hpe]; exact List.getElem_mem hk
      have HOL : Hid (Ow .i64 3 B0 wr o' (btL ls)) := by
        have e : btL ls = bqL (gnF pXR ls) (gnF pXI ls) (prS ls pl j) := by unfold btL; rw [HBT.out, if_pos rfl, hpe]
        show Ow .i64 3 B0 wr o' (btL ls)
        rw [e]
        exact hO.out
      clear hO hA hlt hj hpe
      go_wp2
      go_ret2
      exact ⟨_, by rw [HBT.out]; rfl, by rw [HP.out]; exact HOL.out, hB.out⟩
    case pos =>
    have hltI : (j : Int) < (n : Int) := by omega
    have hj0 : (0 : Int) ≤ (j : Int) := by omega
    by_cases hin : pl ≤ j ∧ j < pl + 26
    case pos =>
      have i1 : (pl : Int) ≤ (j : Int) := by omega
      have i2 : (j : Int) < (pl : Int) + 26 := by omega
      have d1 : decide ((pl : Int) ≤ (j : Int)) = true := decide_eq_true i1
      have d2 : decide ((j : Int) < (pl : Int) + 26) = true := decide_eq_true i2
      have HE : Hid (prS ls pl (j + 1) = prS ls pl j) := prS_in hin.1 hin.2
      have HO' : Hid (Ow .i64 3 B0 wr o' (bqL (gnF pXR ls) (gnF pXI ls) (prS ls pl (j + 1)))) := by rw [HE.out]; exact hO.out
      have HA' : Hid (∀ x ∈ prS ls pl (j + 1), (bq (gnF pXR ls) (gnF pXI ls) x).isSome = true) := by rw [HE.out]; exact hA.out
      clear hin hO hA
      go_wp2
      go_roundw
      case rel => exact ⟨j + 1, _, by omega, by go_num, rfl, HO'.out, HA'.out, hK.out, hB.out⟩
      case measure => simp [intOf]; omega
    case neg =>
    have hout : j < pl ∨ pl + 26 ≤ j := by omega
    have hjl : j < ls.length := by have := HN.out; omega
    have HE : Hid (prS ls pl (j + 1) = prS ls pl j ++ [ls[j]]) := prS_out hjl hout
    have hcc := HC.out wr j hjl hB.out
    obtain ⟨⟨p, r⟩, hpr⟩ : ∃ x, ls[j] = x := ⟨_, rfl⟩
    rw [hpr] at hcc HE
    have HMem : Hid ((p, r) ∈ restS ls) := by
      show _ ∈ _
      rw [HRS.out]
      have : (p, r) ∈ prS ls pl (j + 1) := by rw [HE.out]; simp
      exact prS_mem this
    have CE : Hid (∀ W, Below wr.drew.heap.size wr.drew W → W.cell? ⟨b, off + j * 2, none⟩ = some (.float .f32 p) ∧ W.cell? ⟨b, off + j * 2 + 1, none⟩ = some (.float .f32 r) ∧ W.cell? ⟨X, 0, none⟩ = some (.float .f64 u) ∧ W.cell? ⟨X, 1, none⟩ = some (.float .f64 qq)) := fun W hW => by
      have hk := hK.out.drew.below hW hK.out.lt
      have k0 := hk.cell 0
      have k1 := hk.cell 1
      simp at k0 k1
      refine ⟨?_, ?_, k0, k1⟩
      · rw [hW.cell (block_lt_of_cell hcc.1)]; exact hcc.1
      · rw [hW.cell (block_lt_of_cell hcc.2)]; exact hcc.2
    clear hcc hpr hjl
    have hnd : (decide ((pl : Int) ≤ (j : Int)) && decide ((j : Int) < (pl : Int) + 26)) = false := by
      rcases hout with h | h
      · rw [decide_eq_false (show ¬ (pl : Int) ≤ (j : Int) by omega)]; rfl
      · rw [decide_eq_false (show ¬ (j : Int) < (pl : Int) + 26 by omega)]; simp
    by_cases hpj : j < pl
    case' pos =>
      have d1 : decide ((pl : Int) ≤ (j : Int)) = false := decide_eq_false (by omega)
      have e1 : ((pl : Int) ≤ (j : Int)) = False := eq_false (by omega)
    case' neg =>
      have d1 : decide ((pl : Int) ≤ (j : Int)) = true := decide_eq_true (by omega)
      have e1 : ((pl : Int) ≤ (j : Int)) = True := eq_true (by omega)
      have d2 : decide ((j : Int) < (pl : Int) + 26) = false := decide_eq_false (by omega)
      have e2 : ((j : Int) < (pl : Int) + 26) = False := eq_false (by omega)
    all_goals
      clear hout hnd hpj hin
      go_wp2
      refine region_vals [undef, undef, undef, undef, undef, undef, undef, undef, undef, undef, undef, undef, undef] (RbmS (wr.drew) (.slice (some ⟨b, off, none⟩) n cap) (((j : Nat) : Int)) (b) (off + j * 2) (p) (r) (u) (qq) (gnF pXR ls) (gnF pXI ls)) (by kernel_rfl) (by kernel_rfl) ?_ ⟨?_, ?_, ?_, ?_, ?_, ?_, ?_, ?_, ?_, ?_, ?_, ?_, ?_, trivial⟩ ?_
      · refine ⟨_, _, _, _, _, _, _, _, _, _, _, _, _, 0, 0, 0, 0, false, 0, rfl, ⟨(Below.refl _ _), ?_, ?_, ?_, ?_, ?_, ?_, ?_, ?_, ?_, ?_, ?_, ?_, ?_, ?_, ?_, ?_, ?_, ?_, ?_, ?_, ?_, ?_, ?_⟩⟩ <;> simp
      · rintro d vs W ⟨v0, v1, v2, v3, v4, v5, v6, v7, v8, v9, v10, v11, v12, x1, y1, x, y, ok, X, rfl, H⟩ hn hd
        simp only [putAll, Act.put, List.setIfInBounds_toArray, List.set_cons_succ, List.set_cons_zero]
        have HH1 : Hid (Rbm (wr.drew) (.slice (some ⟨b, off, none⟩) n cap) (((j : Nat) : Int)) (b) (off + j * 2) (p) (r) (u) (qq) (gnF pXR ls) (gnF pXI ls) d W v0 v1 v2 v3 v4 v5 v6 v7 v8 v9 v10 v11 v12 x1 y1 x y ok X) := H
        clear H
        have HHN : Hid (d 0 = false) := hn
        clear hd hn
        go_wp2
        have H0 := HH1.out
        have H := HH1.out
        have hn := HHN.out
        refine ⟨rfl, [(.slice (some ⟨b, off, none⟩) n cap), v1, v2, v3, v4, v5, v6, v7, v8, v9, v10, v11, v12], ?_, (.slice (some ⟨b, off, none⟩) n cap), v1, v2, v3, v4, v5, v6, v7, v8, v9, v10, v11, v12, x1, y1, x, y, ok, X, rfl, ⟨H.bel, (fun _ => rfl), (by have h := H.f1; simpa [doneSet] using h), (by have h := H.f2; simpa [doneSet] using h), (by have h := H.f3; simpa [doneSet] using h), (by have h := H.f4; simpa [doneSet] using h), (by have h := H.hw; simpa [doneSet] using h), (by have h := H.f5; simpa [doneSet] using h), (by have h := H.f6; simpa [doneSet] using h), (by have h := H.hq; simpa [doneSet] using h), (by have h := H.f7; simpa [doneSet] using h), (by have h := H.f8; simpa [doneSet] using h), (by have h := H.f9; simpa [doneSet] using h), (by have h := H.f10; simpa [doneSet] using h), (by have h := H.k10; simpa [doneSet] using h), (by have h := H.x10; simpa [doneSet] using h), (by have h := H.k11; simpa [doneSet] using h), (by have h := H.f12; simpa [doneSet] using h), (by have h := H.g7_6; simpa [doneSet] using h), (by have h := H.g8_6; simpa [doneSet] using h), (by have h := H.g9_6; simpa [doneSet] using h), (by have h := H.g11_6; simpa [doneSet] using h), (by have h := H.g11_10; simpa [doneSet] using h), (by have h := H.g12_6; simpa [doneSet] using h)⟩⟩
        simp only [putAll, Act.put, List.setIfInBounds_toArray, List.set_cons_succ, List.set_cons_zero]
        all_goals rfl
      · rintro d vs W ⟨v0, v1, v2, v3, v4, v5, v6, v7, v8, v9, v10, v11, v12, x1, y1, x, y, ok, X, rfl, H⟩ hn hd
        simp only [putAll, Act.put, List.setIfInBounds_toArray, List.set_cons_succ, List.set_cons_zero]
        have HH1 : Hid (Rbm (wr.drew) (.slice (some ⟨b, off, none⟩) n cap) (((j : Nat) : Int)) (b) (off + j * 2) (p) (r) (u) (qq) (gnF pXR ls) (gnF pXI ls) d W v0 v1 v2 v3 v4 v5 v6 v7 v8 v9 v10 v11 v12 x1 y1 x y ok X) := H
        clear H
        have HHN : Hid (d 1 = false) := hn
        clear hd hn
        go_wp2
        have H0 := HH1.out
        have H := HH1.out
        have hn := HHN.out
        refine ⟨rfl, [v0, .int .i64 (((j : Nat) : Int)), v2, v3, v4, v5, v6, v7, v8, v9, v10, v11, v12], ?_, v0, .int .i64 (((j : Nat) : Int)), v2, v3, v4, v5, v6, v7, v8, v9, v10, v11, v12, x1, y1, x, y, ok, X, rfl, ⟨H.bel, (by have h := H.f0; simpa [doneSet] using h), (fun _ => rfl), (by have h := H.f2; simpa [doneSet] using h), (by have h := H.f3; simpa [doneSet] using h), (by have h := H.f4; simpa [doneSet] using h), (by have h := H.hw; simpa [doneSet] using h), (by have h := H.f5; simpa [doneSet] using h), (by have h := H.f6; simpa [doneSet] using h), (by have h := H.hq; simpa [doneSet] using h), (by have h := H.f7; simpa [doneSet] using h), (by have h := H.f8; simpa [doneSet] using h), (by have h := H.f9; simpa [doneSet] using h), (by have h := H.f10; simpa [doneSet] using h), (by have h := H.k10; simpa [doneSet] using h), (by have h := H.x10; simpa [doneSet] using h), (by have h := H.k11; simpa [doneSet] using h), (by have h := H.f12; simpa [doneSet] using h), (by have h := H.g7_6; simpa [doneSet] using h), (by have h := H.g8_6; simpa [doneSet] using h), (by have h := H.g9_6; simpa [doneSet] using h), (by have h := H.g11_6; simpa [doneSet] using h), (by have h := H.g11_10; simpa [doneSet] using h), (by have h := H.g12_6; simpa [doneSet] using h)⟩⟩
        simp only [putAll, Act.put, List.setIfInBounds_toArray, List.set_cons_succ, List.set_cons_zero]
        all_goals rfl
      · rintro d vs W ⟨v0, v1, v2, v3, v4, v5, v6, v7, v8, v9, v10, v11, v12, x1, y1, x, y, ok, X, rfl, H⟩ hn hd
        simp only [putAll, Act.put, List.setIfInBounds_toArray, List.set_cons_succ, List.set_cons_zero]
        have h0 : d 0 = true := hd { on := 0, ground := .data } (by simp) rfl
        have h1 : d 1 = true := hd { on := 1, ground := .data } (by simp) rfl
        obtain rfl := H.f0 h0
        obtain rfl := H.f1 h1
        have HH1 : Hid (Rbm (wr.drew) (.slice (some ⟨b, off, none⟩) n cap) (((j : Nat) : Int)) (b) (off + j * 2) (p) (r) (u) (qq) (gnF pXR ls) (gnF pXI ls) d W ((.slice (some ⟨b, off, none⟩) n cap)) (.int .i64 (((j : Nat) : Int))) v2 v3 v4 v5 v6 v7 v8 v9 v10 v11 v12 x1 y1 x y ok X) := H
        clear H
        have HHN : Hid (d 2 = false) := hn
        have HHD : Hid (d 0 = true ∧ d 1 = true) := ⟨h0, h1⟩
        clear hd hn h0 h1
        go_wp2
        have H0 := HH1.out
        have H := HH1.out
        have hn := HHN.out
        have h0 := HHD.out.1
        have h1 := HHD.out.2
        refine ⟨rfl, [(.slice (some ⟨b, off, none⟩) n cap), .int .i64 (((j : Nat) : Int)), .pointer (some ⟨b, (off + j * 2), none⟩), v3, v4, v5, v6, v7, v8, v9, v10, v11, v12], ?_, (.slice (some ⟨b, off, none⟩) n cap), .int .i64 (((j : Nat) : Int)), .pointer (some ⟨b, (off + j * 2), none⟩), v3, v4, v5, v6, v7, v8, v9, v10, v11, v12, x1, y1, x, y, ok, X, rfl, ⟨H.bel, (fun _ => rfl), (fun _ => rfl), (fun _ => rfl), (by have h := H.f3; simpa [doneSet] using h), (by have h := H.f4; simpa [doneSet] using h), (by have h := H.hw; simpa [doneSet] using h), (by have h := H.f5; simpa [doneSet] using h), (by have h := H.f6; simpa [doneSet] using h), (by have h := H.hq; simpa [doneSet] using h), (by have h := H.f7; simpa [doneSet] using h), (by have h := H.f8; simpa [doneSet] using h), (by have h := H.f9; simpa [doneSet] using h), (by have h := H.f10; simpa [doneSet] using h), (by have h := H.k10; simpa [doneSet] using h), (by have h := H.x10; simpa [doneSet] using h), (by have h := H.k11; simpa [doneSet] using h), (by have h := H.f12; simpa [doneSet] using h), (by have h := H.g7_6; simpa [doneSet] using h), (by have h := H.g8_6; simpa [doneSet] using h), (by have h := H.g9_6; simpa [doneSet] using h), (by have h := H.g11_6; simpa [doneSet] using h), (by have h := H.g11_10; simpa [doneSet] using h), (by have h := H.g12_6; simpa [doneSet] using h)⟩⟩
        simp only [putAll, Act.put, List.setIfInBounds_toArray, List.set_cons_succ, List.set_cons_zero]
        all_goals rfl
      · rintro d vs W ⟨v0, v1, v2, v3, v4, v5, v6, v7, v8, v9, v10, v11, v12, x1, y1, x, y, ok, X, rfl, H⟩ hn hd
        simp only [putAll, Act.put, List.setIfInBounds_toArray, List.set_cons_succ, List.set_cons_zero]
        have h2 : d 2 = true := hd { on := 2, ground := .data } (by simp) rfl
        obtain ⟨q0, q1, q2, q3⟩ := CE.out W H.bel
        obtain rfl := H.f2 h2
        have HH1 : Hid (Rbm (wr.drew) (.slice (some ⟨b, off, none⟩) n cap) (((j : Nat) : Int)) (b) (off + j * 2) (p) (r) (u) (qq) (gnF pXR ls) (gnF pXI ls) d W v0 v1 (.pointer (some ⟨b, (off + j * 2), none⟩)) v3 v4 v5 v6 v7 v8 v9 v10 v11 v12 x1 y1 x y ok X) := H
        clear H
        have HHN : Hid (d 3 = false) := hn
        have HHD : Hid (d 2 = true) := h2
        clear hd hn h2 q2 q3
        go_wp2
        have H0 := HH1.out
        have H := HH1.out
        have hn := HHN.out
        have h2 := HHD.out
        refine ⟨rfl, [v0, v1, .pointer (some ⟨b, (off + j * 2), none⟩), .agg #[.float .f32 p, .float .f32 r], v4, v5, v6, v7, v8, v9, v10, v11, v12], ?_, v0, v1, .pointer (some ⟨b, (off + j * 2), none⟩), .agg #[.float .f32 p, .float .f32 r], v4, v5, v6, v7, v8, v9, v10, v11, v12, x1, y1, x, y, ok, X, rfl, ⟨H.bel, (by have h := H.f0; simpa [doneSet] using h), (by have h := H.f1; simpa [doneSet] using h), (fun _ => rfl), (fun _ => rfl), (by have h := H.f4; simpa [doneSet] using h), (by have h := H.hw; simpa [doneSet] using h), (by have h := H.f5; simpa [doneSet] using h), (by have h := H.f6; simpa [doneSet] using h), (by have h := H.hq; simpa [doneSet] using h), (by have h := H.f7; simpa [doneSet] using h), (by have h := H.f8; simpa [doneSet] using h), (by have h := H.f9; simpa [doneSet] using h), (by have h := H.f10; simpa [doneSet] using h), (by have h := H.k10; simpa [doneSet] using h), (by have h := H.x10; simpa [doneSet] using h), (by have h := H.k11; simpa [doneSet] using h), (by have h := H.f12; simpa [doneSet] using h), (by have h := H.g7_6; simpa [doneSet] using h), (by have h := H.g8_6; simpa [doneSet] using h), (by have h := H.g9_6; simpa [doneSet] using h), (by have h := H.g11_6; simpa [doneSet] using h), (by have h := H.g11_10; simpa [doneSet] using h), (by have h := H.g12_6; simpa [doneSet] using h)⟩⟩
        simp only [putAll, Act.put, List.setIfInBounds_toArray, List.set_cons_succ, List.set_cons_zero]
        all_goals rfl
      · rintro d vs W ⟨v0, v1, v2, v3, v4, v5, v6, v7, v8, v9, v10, v11, v12, x1, y1, x, y, ok, X, rfl, H⟩ hn hd
        simp only [putAll, Act.put, List.setIfInBounds_toArray, List.set_cons_succ, List.set_cons_zero]
        have h3 : d 3 = true := hd { on := 3, ground := .data } (by simp) rfl
        obtain rfl := H.f3 h3
        have HH1 : Hid (Rbm (wr.drew) (.slice (some ⟨b, off, none⟩) n cap) (((j : Nat) : Int)) (b) (off + j * 2) (p) (r) (u) (qq) (gnF pXR ls) (gnF pXI ls) d W v0 v1 v2 (.agg #[.float .f32 p, .float .f32 r]) v4 v5 v6 v7 v8 v9 v10 v11 v12 x1 y1 x y ok X) := H
        clear H
        have HHN : Hid (d 4 = false) := hn
        have HHD : Hid (d 3 = true) := h3
        clear hd hn h3
        go_wp2_with (fail)
        refine (widM_c p r W).mono ?_
        rintro e W3 ⟨x4, y4, rfl, hx4, hy4, b7⟩
        have HB7 : Hid (Below W.heap.size W W3) := b7
        have HX4 : Hid (fc .f64 x4 = (fc .f32 p).map wid ∧ fc .f64 y4 = (fc .f32 r).map wid) := ⟨hx4, hy4⟩
        clear b7 hx4 hy4
        go_wp2
        have H0 := HH1.out
        have H := HH1.out.below HB7.out
        have hn := HHN.out
        have h3 := HHD.out
        refine ⟨rfl, [v0, v1, v2, .agg #[.float .f32 p, .float .f32 r], .agg #[.float .f64 x4, .float .f64 y4], v5, v6, v7, v8, v9, v10, v11, v12], ?_, v0, v1, v2, .agg #[.float .f32 p, .float .f32 r], .agg #[.float .f64 x4, .float .f64 y4], v5, v6, v7, v8, v9, v10, v11, v12, x4, y4, x, y, ok, X, rfl, ⟨H.bel, (by have h := H.f0; simpa [doneSet] using h), (by have h := H.f1; simpa [doneSet] using h), (by have h := H.f2; simpa [doneSet] using h), (fun _ => rfl), (fun _ => rfl), (fun _ => HX4.out), (by have h := H.f5; simpa [doneSet] using h), (by have h := H.f6; simpa [doneSet] using h), (by have h := H.hq; simpa [doneSet] using h), (by have h := H.f7; simpa [doneSet] using h), (by have h := H.f8; simpa [doneSet] using h), (by have h := H.f9; simpa [doneSet] using h), (by have h := H.f10; simpa [doneSet] using h), (by have h := H.k10; simpa [doneSet] using h), (by have h := H.x10; simpa [doneSet] using h), (by have h := H.k11; simpa [doneSet] using h), (by have h := H.f12; simpa [doneSet] using h), (by have h := H.g7_6; simpa [doneSet] using h), (by have h := H.g8_6; simpa [doneSet] using h), (by have h := H.g9_6; simpa [doneSet] using h), (by have h := H.g11_6; simpa [doneSet] using h), (by have h := H.g11_10; simpa [doneSet] using h), (by have h := H.g12_6; simpa [doneSet] using h)⟩⟩
        simp only [putAll, Act.put, List.setIfInBounds_toArray, List.set_cons_succ, List.set_cons_zero]
        all_goals rfl
      · rintro d vs W ⟨v0, v1, v2, v3, v4, v5, v6, v7, v8, v9, v10, v11, v12, x1, y1, x, y, ok, X, rfl, H⟩ hn hd
        simp only [putAll, Act.put, List.setIfInBounds_toArray, List.set_cons_succ, List.set_cons_zero]
        obtain ⟨q0, q1, q2, q3⟩ := CE.out W H.bel
        have HH1 : Hid (Rbm (wr.drew) (.slice (some ⟨b, off, none⟩) n cap) (((j : Nat) : Int)) (b) (off + j * 2) (p) (r) (u) (qq) (gnF pXR ls) (gnF pXI ls) d W v0 v1 v2 v3 v4 v5 v6 v7 v8 v9 v10 v11 v12 x1 y1 x y ok X) := H
        clear H
        have HHN : Hid (d 5 = false) := hn
        clear hd hn q0 q1
        go_wp2
        have H0 := HH1.out
        have H := HH1.out
        have hn := HHN.out
        refine ⟨rfl, [v0, v1, v2, v3, v4, .agg #[.float .f64 u, .float .f64 qq], v6, v7, v8, v9, v10, v11, v12], ?_, v0, v1, v2, v3, v4, .agg #[.float .f64 u, .float .f64 qq], v6, v7, v8, v9, v10, v11, v12, x1, y1, x, y, ok, X, rfl, ⟨H.bel, (by have h := H.f0; simpa [doneSet] using h), (by have h := H.f1; simpa [doneSet] using h), (by have h := H.f2; simpa [doneSet] using h), (by have h := H.f3; simpa [doneSet] using h), (by have h := H.f4; simpa [doneSet] using h), (by have h := H.hw; simpa [doneSet] using h), (fun _ => rfl), (by have h := H.f6; simpa [doneSet] using h), (by have h := H.hq; simpa [doneSet] using h), (by have h := H.f7; simpa [doneSet] using h), (by have h := H.f8; simpa [doneSet] using h), (by have h := H.f9; simpa [doneSet] using h), (by have h := H.f10; simpa [doneSet] using h), (by have h := H.k10; simpa [doneSet] using h), (by have h := H.x10; simpa [doneSet] using h), (by have h := H.k11; simpa [doneSet] using h), (by have h := H.f12; simpa [doneSet] using h), (by have h := H.g7_6; simpa [doneSet] using h), (by have h := H.g8_6; simpa [doneSet] using h), (by have h := H.g9_6; simpa [doneSet] using h), (by have h := H.g11_6; simpa [doneSet] using h), (by have h := H.g11_10; simpa [doneSet] using h), (by have h := H.g12_6; simpa [doneSet] using h)⟩⟩
        simp only [putAll, Act.put, List.setIfInBounds_toArray, List.set_cons_succ, List.set_cons_zero]
        all_goals rfl
      · rintro d vs W ⟨v0, v1, v2, v3, v4, v5, v6, v7, v8, v9, v10, v11, v12, x1, y1, x, y, ok, X, rfl, H⟩ hn hd
        simp only [putAll, Act.put, List.setIfInBounds_toArray, List.set_cons_succ, List.set_cons_zero]
        have h4 : d 4 = true := hd { on := 4, ground := .data } (by simp) rfl
        have h5 : d 5 = true := hd { on := 5, ground := .data } (by simp) rfl
        have HW4 : Hid (fc .f64 x1 = (fc .f32 p).map wid ∧ fc .f64 y1 = (fc .f32 r).map wid) := H.hw h4
        obtain rfl := H.f4 h4
        obtain rfl := H.f5 h5
        have HH1 : Hid (Rbm (wr.drew) (.slice (some ⟨b, off, none⟩) n cap) (((j : Nat) : Int)) (b) (off + j * 2) (p) (r) (u) (qq) (gnF pXR ls) (gnF pXI ls) d W v0 v1 v2 v3 (.agg #[.float .f64 x1, .float .f64 y1]) (.agg #[.float .f64 u, .float .f64 qq]) v6 v7 v8 v9 v10 v11 v12 x1 y1 x y ok X) := H
        clear H
        have HHN : Hid (d 6 = false) := hn
        have HHD : Hid (d 4 = true ∧ d 5 = true) := ⟨h4, h5⟩
        clear hd hn h4 h5
        go_wp2_with (fail)
        refine (quotM_c x1 y1 u qq HUL.out.1 HUL.out.2 W).mono ?_
        rintro e W3 ⟨x6, y6, rfl, hx6, hy6, b7⟩
        have HB7 : Hid (Below W.heap.size W W3) := b7
        have HQ6 : Hid (bq (gnF pXR ls) (gnF pXI ls) (p, r) = if qOk x1 y1 u qq = true then some (bitF (fc .f64 x6), bitF (fc .f64 y6)) else none) := by
          have := bq_of (p := (p, r)) HW4.out.1 HW4.out.2 HF.out.1 HF.out.2
          rw [← hx6, ← hy6] at this
          exact this
        clear b7 hx6 hy6
        go_wp2
        have H0 := HH1.out
        have H := HH1.out.below HB7.out
        have hn := HHN.out
        have h4 := HHD.out.1
        have h5 := HHD.out.2
        refine ⟨rfl, [v0, v1, v2, v3, .agg #[.float .f64 x1, .float .f64 y1], .agg #[.float .f64 u, .float .f64 qq], .tuple #[.agg #[.float .f64 x6, .float .f64 y6], .bool (qOk x1 y1 u qq)], v7, v8, v9, v10, v11, v12], ?_, v0, v1, v2, v3, .agg #[.float .f64 x1, .float .f64 y1], .agg #[.float .f64 u, .float .f64 qq], .tuple #[.agg #[.float .f64 x6, .float .f64 y6], .bool (qOk x1 y1 u qq)], v7, v8, v9, v10, v11, v12, x1, y1, x6, y6, (qOk x1 y1 u qq), X, rfl, ⟨H.bel, (by have h := H.f0; simpa [doneSet] using h), (by have h := H.f1; simpa [doneSet] using h), (by have h := H.f2; simpa [doneSet] using h), (by have h := H.f3; simpa [doneSet] using h), (fun _ => rfl), (by have h := H.hw; simpa [doneSet] using h), (fun _ => rfl), (fun _ => rfl), (fun _ => HQ6.out), (fun e => absurd (H0.g7_6 (by simpa [doneSet] using e)) (by rw [hn]; simp)), (fun e => absurd (H0.g8_6 (by simpa [doneSet] using e)) (by rw [hn]; simp)), (fun e => absurd (H0.g9_6 (by simpa [doneSet] using e)) (by rw [hn]; simp)), (by have h := H.f10; simpa [doneSet] using h), (by have h := H.k10; simpa [doneSet] using h), (by have h := H.x10; simpa [doneSet] using h), (fun e => absurd (H0.g11_6 (by simpa [doneSet] using e)) (by rw [hn]; simp)), (fun e => absurd (H0.g12_6 (by simpa [doneSet] using e)) (by rw [hn]; simp)), (fun _ => by simp [doneSet]), (fun _ => by simp [doneSet]), (fun _ => by simp [doneSet]), (fun _ => by simp [doneSet]), (by have h := H.g11_10; simpa [doneSet] using h), (fun _ => by simp [doneSet])⟩⟩
        simp only [putAll, Act.put, List.setIfInBounds_toArray, List.set_cons_succ, List.set_cons_zero]
        all_goals rfl
      · rintro d vs W ⟨v0, v1, v2, v3, v4, v5, v6, v7, v8, v9, v10, v11, v12, x1, y1, x, y, ok, X, rfl, H⟩ hn hd
        simp only [putAll, Act.put, List.setIfInBounds_toArray, List.set_cons_succ, List.set_cons_zero]
        have h6 : d 6 = true := hd { on := 6, ground := .data } (by simp) rfl
        obtain rfl := H.f6 h6
        have HH1 : Hid (Rbm (wr.drew) (.slice (some ⟨b, off, none⟩) n cap) (((j : Nat) : Int)) (b) (off + j * 2) (p) (r) (u) (qq) (gnF pXR ls) (gnF pXI ls) d W v0 v1 v2 v3 v4 v5 (.tuple #[.agg #[.float .f64 x, .float .f64 y], .bool ok]) v7 v8 v9 v10 v11 v12 x1 y1 x y ok X) := H
        clear H
        have HHN : Hid (d 7 = false) := hn
        have HHD : Hid (d 6 = true) := h6
        clear hd hn h6
        go_wp2
        have H0 := HH1.out
        have H := HH1.out
        have hn := HHN.out
        have h6 := HHD.out
        refine ⟨rfl, [v0, v1, v2, v3, v4, v5, .tuple #[.agg #[.float .f64 x, .float .f64 y], .bool ok], .tuple #[.agg #[.float .f64 x, .float .f64 y], .bool ok], v8, v9, v10, v11, v12], ?_, v0, v1, v2, v3, v4, v5, .tuple #[.agg #[.float .f64 x, .float .f64 y], .bool ok], .tuple #[.agg #[.float .f64 x, .float .f64 y], .bool ok], v8, v9, v10, v11, v12, x1, y1, x, y, ok, X, rfl, ⟨H.bel, (by have h := H.f0; simpa [doneSet] using h), (by have h := H.f1; simpa [doneSet] using h), (by have h := H.f2; simpa [doneSet] using h), (by have h := H.f3; simpa [doneSet] using h), (by have h := H.f4; simpa [doneSet] using h), (by have h := H.hw; simpa [doneSet] using h), (by have h := H.f5; simpa [doneSet] using h), (fun _ => rfl), (by have h := H.hq; simpa [doneSet] using h), (fun _ => rfl), (by have h := H.f8; simpa [doneSet] using h), (by have h := H.f9; simpa [doneSet] using h), (by have h := H.f10; simpa [doneSet] using h), (by have h := H.k10; simpa [doneSet] using h), (by have h := H.x10; simpa [doneSet] using h), (by have h := H.k11; simpa [doneSet] using h), (by have h := H.f12; simpa [doneSet] using h), (fun _ => by simpa [doneSet] using h6), (by have h := H.g8_6; simpa [doneSet] using h), (by have h := H.g9_6; simpa [doneSet] using h), (by have h := H.g11_6; simpa [doneSet] using h), (by have h := H.g11_10; simpa [doneSet] using h), (by have h := H.g12_6; simpa [doneSet] using h)⟩⟩
        simp only [putAll, Act.put, List.setIfInBounds_toArray, List.set_cons_succ, List.set_cons_zero]
        all_goals rfl
      · rintro d vs W ⟨v0, v1, v2, v3, v4, v5, v6, v7, v8, v9, v10, v11, v12, x1, y1, x, y, ok, X, rfl, H⟩ hn hd
        simp only [putAll, Act.put, List.setIfInBounds_toArray, List.set_cons_succ, List.set_cons_zero]
        have h7 : d 7 = true := hd { on := 7, ground := .data } (by simp) rfl
        have h6 : d 6 = true := H.g7_6 h7
        obtain rfl := H.f7 h7
        have HH1 : Hid (Rbm (wr.drew) (.slice (some ⟨b, off, none⟩) n cap) (((j : Nat) : Int)) (b) (off + j * 2) (p) (r) (u) (qq) (gnF pXR ls) (gnF pXI ls) d W v0 v1 v2 v3 v4 v5 v6 (.tuple #[.agg #[.float .f64 x, .float .f64 y], .bool ok]) v8 v9 v10 v11 v12 x1 y1 x y ok X) := H
        clear H
        have HHN : Hid (d 8 = false) := hn
        have HHD : Hid (d 7 = true) := h7
        clear hd hn h7
        go_wp2
        have H0 := HH1.out
        have H := HH1.out
        have hn := HHN.out
        have h7 := HHD.out
        refine ⟨rfl, [v0, v1, v2, v3, v4, v5, v6, .tuple #[.agg #[.float .f64 x, .float .f64 y], .bool ok], .agg #[.float .f64 x, .float .f64 y], v9, v10, v11, v12], ?_, v0, v1, v2, v3, v4, v5, v6, .tuple #[.agg #[.float .f64 x, .float .f64 y], .bool ok], .agg #[.float .f64 x, .float .f64 y], v9, v10, v11, v12, x1, y1, x, y, ok, X, rfl, ⟨H.bel, (by have h := H.f0; simpa [doneSet] using h), (by have h := H.f1; simpa [doneSet] using h), (by have h := H.f2; simpa [doneSet] using h), (by have h := H.f3; simpa [doneSet] using h), (by have h := H.f4; simpa [doneSet] using h), (by have h := H.hw; simpa [doneSet] using h), (by have h := H.f5; simpa [doneSet] using h), (by have h := H.f6; simpa [doneSet] using h), (by have h := H.hq; simpa [doneSet] using h), (fun _ => rfl), (fun _ => rfl), (by have h := H.f9; simpa [doneSet] using h), (by have h := H.f10; simpa [doneSet] using h), (by have h := H.k10; simpa [doneSet] using h), (by have h := H.x10; simpa [doneSet] using h), (by have h := H.k11; simpa [doneSet] using h), (by have h := H.f12; simpa [doneSet] using h), (by have h := H.g7_6; simpa [doneSet] using h), (fun _ => by simpa [doneSet] using h6), (by have h := H.g9_6; simpa [doneSet] using h), (by have h := H.g11_6; simpa [doneSet] using h), (by have h := H.g11_10; simpa [doneSet] using h), (by have h := H.g12_6; simpa [doneSet] using h)⟩⟩
        simp only [putAll, Act.put, List.setIfInBounds_toArray, List.set_cons_succ, List.set_cons_zero]
        all_goals rfl
      · rintro d vs W ⟨v0, v1, v2, v3, v4, v5, v6, v7, v8, v9, v10, v11, v12, x1, y1, x, y, ok, X, rfl, H⟩ hn hd
        simp only [putAll, Act.put, List.setIfInBounds_toArray, List.set_cons_succ, List.set_cons_zero]
        have h7 : d 7 = true := hd { on := 7, ground := .data } (by simp) rfl
        have h6 : d 6 = true := H.g7_6 h7
        obtain rfl := H.f7 h7
        have HH1 : Hid (Rbm (wr.drew) (.slice (some ⟨b, off, none⟩) n cap) (((j : Nat) : Int)) (b) (off + j * 2) (p) (r) (u) (qq) (gnF pXR ls) (gnF pXI ls) d W v0 v1 v2 v3 v4 v5 v6 (.tuple #[.agg #[.float .f64 x, .float .f64 y], .bool ok]) v8 v9 v10 v11 v12 x1 y1 x y ok X) := H
        clear H
        have HHN : Hid (d 9 = false) := hn
        have HHD : Hid (d 7 = true) := h7
        clear hd hn h7
        go_wp2
        have H0 := HH1.out
        have H := HH1.out
        have hn := HHN.out
        have h7 := HHD.out
        refine ⟨rfl, [v0, v1, v2, v3, v4, v5, v6, .tuple #[.agg #[.float .f64 x, .float .f64 y], .bool ok], v8, .bool ok, v10, v11, v12], ?_, v0, v1, v2, v3, v4, v5, v6, .tuple #[.agg #[.float .f64 x, .float .f64 y], .bool ok], v8, .bool ok, v10, v11, v12, x1, y1, x, y, ok, X, rfl, ⟨H.bel, (by have h := H.f0; simpa [doneSet] using h), (by have h := H.f1; simpa [doneSet] using h), (by have h := H.f2; simpa [doneSet] using h), (by have h := H.f3; simpa [doneSet] using h), (by have h := H.f4; simpa [doneSet] using h), (by have h := H.hw; simpa [doneSet] using h), (by have h := H.f5; simpa [doneSet] using h), (by have h := H.f6; simpa [doneSet] using h), (by have h := H.hq; simpa [doneSet] using h), (fun _ => rfl), (by have h := H.f8; simpa [doneSet] using h), (fun _ => rfl), (by have h := H.f10; simpa [doneSet] using h), (by have h := H.k10; simpa [doneSet] using h), (by have h := H.x10; simpa [doneSet] using h), (by have h := H.k11; simpa [doneSet] using h), (by have h := H.f12; simpa [doneSet] using h), (by have h := H.g7_6; simpa [doneSet] using h), (by have h := H.g8_6; simpa [doneSet] using h), (fun _ => by simpa [doneSet] using h6), (by have h := H.g11_6; simpa [doneSet] using h), (by have h := H.g11_10; simpa [doneSet] using h), (by have h := H.g12_6; simpa [doneSet] using h)⟩⟩
        simp only [putAll, Act.put, List.setIfInBounds_toArray, List.set_cons_succ, List.set_cons_zero]
        all_goals rfl
      · rintro d vs W ⟨v0, v1, v2, v3, v4, v5, v6, v7, v8, v9, v10, v11, v12, x1, y1, x, y, ok, X, rfl, H⟩ hn hd
        simp only [putAll, Act.put, List.setIfInBounds_toArray, List.set_cons_succ, List.set_cons_zero]
        have HH1 : Hid (Rbm (wr.drew) (.slice (some ⟨b, off, none⟩) n cap) (((j : Nat) : Int)) (b) (off + j * 2) (p) (r) (u) (qq) (gnF pXR ls) (gnF pXI ls) d W v0 v1 v2 v3 v4 v5 v6 v7 v8 v9 v10 v11 v12 x1 y1 x y ok X) := H
        clear H
        have HHN : Hid (d 10 = false) := hn
        clear hd hn
        go_wp2
        have H0 := HH1.out
        have H := HH1.out.below ((Below.refl _ W).alloc (Nat.le_refl _) (.cells #[.float .f64 0, .float .f64 0] 38))
        have hn := HHN.out
        refine ⟨rfl, [v0, v1, v2, v3, v4, v5, v6, v7, v8, v9, .pointer (some ⟨W.heap.size, 0, none⟩), v11, v12], ?_, v0, v1, v2, v3, v4, v5, v6, v7, v8, v9, .pointer (some ⟨W.heap.size, 0, none⟩), v11, v12, x1, y1, x, y, ok, W.heap.size, rfl, ⟨H.bel, (by have h := H.f0; simpa [doneSet] using h), (by have h := H.f1; simpa [doneSet] using h), (by have h := H.f2; simpa [doneSet] using h), (by have h := H.f3; simpa [doneSet] using h), (by have h := H.f4; simpa [doneSet] using h), (by have h := H.hw; simpa [doneSet] using h), (by have h := H.f5; simpa [doneSet] using h), (by have h := H.f6; simpa [doneSet] using h), (by have h := H.hq; simpa [doneSet] using h), (by have h := H.f7; simpa [doneSet] using h), (by have h := H.f8; simpa [doneSet] using h), (by have h := H.f9; simpa [doneSet] using h), (fun _ => rfl), (fun _ _ => Blk.new _ _ _), (fun _ => H0.bel.size), (fun e => absurd (H0.g11_10 (by simpa [doneSet] using e)) (by rw [hn]; simp)), (by have h := H.f12; simpa [doneSet] using h), (by have h := H.g7_6; simpa [doneSet] using h), (by have h := H.g8_6; simpa [doneSet] using h), (by have h := H.g9_6; simpa [doneSet] using h), (by have h := H.g11_6; simpa [doneSet] using h), (fun _ => by simp [doneSet]), (by have h := H.g12_6; simpa [doneSet] using h)⟩⟩
        simp only [putAll, Act.put, List.setIfInBounds_toArray, List.set_cons_succ, List.set_cons_zero]
        all_goals rfl
      · rintro d vs W ⟨v0, v1, v2, v3, v4, v5, v6, v7, v8, v9, v10, v11, v12, x1, y1, x, y, ok, X, rfl, H⟩ hn hd
        simp only [putAll, Act.put, List.setIfInBounds_toArray, List.set_cons_succ, List.set_cons_zero]
        have h10 : d 10 = true := hd { on := 10, ground := .data } (by simp) rfl
        have h8 : d 8 = true := hd { on := 8, ground := .data } (by simp) rfl
        have h6 : d 6 = true := H.g8_6 h8
        have K5 := H.k10 h10 hn
        have HK5 : Hid (Blk W X #[.float .f64 0, .float .f64 0] 38) := K5
        have HX5 : Hid (wr.drew.heap.size ≤ X) := H.x10 h10
        have z0 := K5.cell 0
        have z1 := K5.cell 1
        have f0 := K5.frozen 0
        have f1 := K5.frozen 1
        simp at z0 z1
        clear K5
        obtain rfl := H.f10 h10
        obtain rfl := H.f8 h8
        have HH1 : Hid (Rbm (wr.drew) (.slice (some ⟨b, off, none⟩) n cap) (((j : Nat) : Int)) (b) (off + j * 2) (p) (r) (u) (qq) (gnF pXR ls) (gnF pXI ls) d W v0 v1 v2 v3 v4 v5 v6 v7 (.agg #[.float .f64 x, .float .f64 y]) v9 (.pointer (some ⟨X, 0, none⟩)) v11 v12 x1 y1 x y ok X) := H
        clear H
        have HHN : Hid (d 11 = false) := hn
        have HHD : Hid (d 10 = true ∧ d 8 = true) := ⟨h10, h8⟩
        clear hd hn h10 h8
        go_wp2
        have H0 := HH1.out
        have H := HH1.out
        have hn := HHN.out
        have h10 := HHD.out.1
        have h8 := HHD.out.2
        refine ⟨rfl, [v0, v1, v2, v3, v4, v5, v6, v7, .agg #[.float .f64 x, .float .f64 y], v9, .pointer (some ⟨X, 0, none⟩), undef, v12], ?_, v0, v1, v2, v3, v4, v5, v6, v7, .agg #[.float .f64 x, .float .f64 y], v9, .pointer (some ⟨X, 0, none⟩), undef, v12, x1, y1, x, y, ok, X, rfl, ⟨(below_set2 H0.bel _ HX5.out _ _), (by have h := H.f0; simpa [doneSet] using h), (by have h := H.f1; simpa [doneSet] using h), (by have h := H.f2; simpa [doneSet] using h), (by have h := H.f3; simpa [doneSet] using h), (by have h := H.f4; simpa [doneSet] using h), (by have h := H.hw; simpa [doneSet] using h), (by have h := H.f5; simpa [doneSet] using h), (by have h := H.f6; simpa [doneSet] using h), (by have h := H.hq; simpa [doneSet] using h), (by have h := H.f7; simpa [doneSet] using h), (fun _ => rfl), (by have h := H.f9; simpa [doneSet] using h), (fun _ => rfl), (fun _ e => absurd e (by simp [doneSet])), (by have h := H.x10; simpa [doneSet] using h), (fun _ => Blk.set2 HK5.out _ _), (by have h := H.f12; simpa [doneSet] using h), (by have h := H.g7_6; simpa [doneSet] using h), (by have h := H.g8_6; simpa [doneSet] using h), (by have h := H.g9_6; simpa [doneSet] using h), (fun _ => by simpa [doneSet] using h6), (fun _ => by simpa [doneSet] using h10), (by have h := H.g12_6; simpa [doneSet] using h)⟩⟩
        simp only [putAll, Act.put, List.setIfInBounds_toArray, List.set_cons_succ, List.set_cons_zero]
        all_goals rfl
      · rintro d vs W ⟨v0, v1, v2, v3, v4, v5, v6, v7, v8, v9, v10, v11, v12, x1, y1, x, y, ok, X, rfl, H⟩ hn hd
        simp only [putAll, Act.put, List.setIfInBounds_toArray, List.set_cons_succ, List.set_cons_zero]
        have h9 : d 9 = true := hd { on := 9, ground := .data } (by simp) rfl
        have h6 : d 6 = true := H.g9_6 h9
        obtain rfl := H.f9 h9
        have HH1 : Hid (Rbm (wr.drew) (.slice (some ⟨b, off, none⟩) n cap) (((j : Nat) : Int)) (b) (off + j * 2) (p) (r) (u) (qq) (gnF pXR ls) (gnF pXI ls) d W v0 v1 v2 v3 v4 v5 v6 v7 v8 (.bool ok) v10 v11 v12 x1 y1 x y ok X) := H
        clear H
        have HHN : Hid (d 12 = false) := hn
        have HHD : Hid (d 9 = true) := h9
        clear hd hn h9
        go_wp2
        have H0 := HH1.out
        have H := HH1.out
        have hn := HHN.out
        have h9 := HHD.out
        refine ⟨rfl, [v0, v1, v2, v3, v4, v5, v6, v7, v8, .bool ok, v10, v11, .bool ok], ?_, v0, v1, v2, v3, v4, v5, v6, v7, v8, .bool ok, v10, v11, .bool ok, x1, y1, x, y, ok, X, rfl, ⟨H.bel, (by have h := H.f0; simpa [doneSet] using h), (by have h := H.f1; simpa [doneSet] using h), (by have h := H.f2; simpa [doneSet] using h), (by have h := H.f3; simpa [doneSet] using h), (by have h := H.f4; simpa [doneSet] using h), (by have h := H.hw; simpa [doneSet] using h), (by have h := H.f5; simpa [doneSet] using h), (by have h := H.f6; simpa [doneSet] using h), (by have h := H.hq; simpa [doneSet] using h), (by have h := H.f7; simpa [doneSet] using h), (by have h := H.f8; simpa [doneSet] using h), (fun _ => rfl), (by have h := H.f10; simpa [doneSet] using h), (by have h := H.k10; simpa [doneSet] using h), (by have h := H.x10; simpa [doneSet] using h), (by have h := H.k11; simpa [doneSet] using h), (fun _ => rfl), (by have h := H.g7_6; simpa [doneSet] using h), (by have h := H.g8_6; simpa [doneSet] using h), (by have h := H.g9_6; simpa [doneSet] using h), (by have h := H.g11_6; simpa [doneSet] using h), (by have h := H.g11_10; simpa [doneSet] using h), (fun _ => by simpa [doneSet] using h6)⟩⟩
        simp only [putAll, Act.put, List.setIfInBounds_toArray, List.set_cons_succ, List.set_cons_zero]
        all_goals rfl
      rintro d' vs W ⟨v0, v1, v2, v3, v4, v5, v6, v7, v8, v9, v10, v11, v12, x1, y1, x, y, ok, Y, rfl, H⟩ hn
      obtain rfl := H.f0 (hn 0 (by decide))
      obtain rfl := H.f1 (hn 1 (by decide))
      obtain rfl := H.f2 (hn 2 (by decide))
      obtain rfl := H.f3 (hn 3 (by decide))
      obtain rfl := H.f4 (hn 4 (by decide))
      obtain rfl := H.f5 (hn 5 (by decide))
      obtain rfl := H.f6 (hn 6 (by decide))
      obtain rfl := H.f7 (hn 7 (by decide))
      obtain rfl := H.f8 (hn 8 (by decide))
      obtain rfl := H.f9 (hn 9 (by decide))
      obtain rfl := H.f10 (hn 10 (by decide))
      obtain rfl := H.f12 (hn 12 (by decide))
      have b' : Below wr.heap.size wr W := (Below.refl _ _).drew.trans H.bel
      have HQQ : Hid (bq (gnF pXR ls) (gnF pXI ls) (p, r) = if ok = true then some (bitF (fc .f64 x), bitF (fc .f64 y)) else none) := H.hq (hn 6 (by decide))
      have HKY : Hid (Blk W Y #[.float .f64 x, .float .f64 y] 38) := H.k11 (hn 11 (by decide))
      have HOW : Hid (Ow .i64 3 B0 W o' (bqL (gnF pXR ls) (gnF pXI ls) (prS ls pl j))) := hO.out.below b'
      have HKX : Hid (Blk W X #[.float .f64 u, .float .f64 qq] 38) := hK.out.below b' hK.out.lt
      have HBW : Hid (Below w.heap.size w W) := belowCall hB.out b' hB.out.size
      clear H hn hO hK hB CE b'
      simp only [putAll, Act.put, List.setIfInBounds_toArray, List.set_cons_succ, List.set_cons_zero]
      cases ok with
      | false =>
        have HBF : Hid (btB ls = false) := btB_mem HMem.out (by rw [HQQ.out]; simp)
        have HOE : Hid (Ow .i64 3 w.heap.size (W.alloc (Obj.cells #[] 3)) (.slice (some ⟨W.heap.size, 0, none⟩) 0 0) []) := Ow.empty .i64 3 _ W HBW.out.size
        have HBE : Hid (Below w.heap.size w (W.alloc (Obj.cells #[] 3))) := HBW.out.alloc HBW.out.size _
        go_wp2
        go_ret2
        exact ⟨_, by rw [HBF.out]; rfl, by rw [bt_no HBF.out]; exact HOE.out, HBE.out⟩
      | true =>
      obtain ⟨S, hS⟩ : ∃ S : World → Prop, ∀ W, S W ↔ Blk W Y #[.float .f64 x, .float .f64 y] 38 := ⟨_, fun _ => Iff.rfl⟩
      have y0 : ∀ W : At S, W.wd.cell? ⟨Y, 0, none⟩ = some (.float .f64 x) := fun W => by have := ((hS _).1 W.ok).cell 0; simpa using this
      have y1 : ∀ W : At S, W.wd.cell? ⟨Y, 1, none⟩ = some (.float .f64 y) := fun W => by have := ((hS _).1 W.ok).cell 1; simpa using this
      have HSS : Hid (∀ W, S W ↔ Blk W Y #[.float .f64 x, .float .f64 y] 38) := hS
      have HSD : Hid (S W.drew) := (hS _).2 HKY.out.drew
      have ne : Nonempty (At S) := ⟨⟨_, HSD.out⟩⟩
      clear hS
      go_wp2
      refine region_mixT [true, true, true, false, true, true, false, false, false, false] 10 5 S (by kernel_rfl) rfl (by kernel_rfl) (fun _ _ _ _ _ h => h) HSD.out ?_
      simp only [selT, selF]
      try simp only [Act.put]
      repeat (go_big_quiet_step (fail))
      refine wpQuiet_nil ?_
      refine tail_step ?_
      clear y0 y1 ne
      go_wp2_with (fail)
      refine (bitM_c x _).mono ?_
      rintro e w5 ⟨rfl, hw⟩
      rw [hw]
      clear hw w5
      go_wp2
      refine ⟨HSD.out, tail_step ?_⟩
      go_wp2_with (fail)
      refine (bitM_c y _).mono ?_
      rintro e w5 ⟨rfl, hw⟩
      rw [hw]
      clear hw w5
      obtain ⟨z1, hz1⟩ : ∃ z, bitF (fc .f64 x) = z := ⟨_, rfl⟩
      obtain ⟨z2, hz2⟩ : ∃ z, bitF (fc .f64 y) = z := ⟨_, rfl⟩
      rw [hz1, hz2] at HQQ ⊢
      clear hz1 hz2
      obtain ⟨W5, hW5⟩ : ∃ V, (W.alloc (Obj.cells #[.int .i64 z1, .int .i64 z2] 3)).drew = V := ⟨_, rfl⟩
      have HW5 : Hid ((W.alloc (Obj.cells #[.int .i64 z1, .int .i64 z2] 3)).drew = W5) := hW5
      have ba : Below W.heap.size W W5 := by rw [← hW5]; exact ((Below.refl _ _).alloc (Nat.le_refl _) _).drew
      have HO5 : Hid (Ow .i64 3 B0 W5 o' (bqL (gnF pXR ls) (gnF pXI ls) (prS ls pl j))) := HOW.out.below ba
      have HB5 : Hid (Below w.heap.size w W5) := belowCall HBW.out ba HBW.out.size
      have HX5 : Hid (Blk W5 X #[.float .f64 u, .float .f64 qq] 38) := HKX.out.below ba HKX.out.lt
      have HY5 : Hid (Blk W5 Y #[.float .f64 x, .float .f64 y] 38) := HKY.out.below ba HKY.out.lt
      have HS5 : Hid (S W5) := (HSS.out _).2 HY5.out
      have HK5 : Hid (Blk W5 W.heap.size #[.int .i64 z1, .int .i64 z2] 3) := by rw [← hW5]; exact (Blk.new _ _ _).drew
      have HLL : Hid ((bqL (gnF pXR ls) (gnF pXI ls) (prS ls pl j)).length ≤ 1000) := by
        show _ ≤ _
        have h1 := bqL_len (gnF pXR ls) (gnF pXI ls) (prS ls pl j)
        have h2 : (prS ls pl j).length ≤ 2 * ls.length := by unfold prS; simp; omega
        have := HN.out; omega
      have HSZ : Hid (B0 ≤ W5.heap.size) := by have := HB5.out.size; show B0 ≤ _; rw [HP.out] at this; exact this
      clear ba hW5 HOW HBW HKX HKY
      go_wp2
      refine ⟨HSD.out, tail_step ?_⟩
      go_wp2
      rw [HW5.out]
      refine ⟨HS5.out, tail_step ?_⟩
      go_wp2_with (at_builtin; refine appI2g rfl _ _ rfl B0 _ (bqL (gnF pXR ls) (gnF pXI ls) (prS ls pl j)) rfl HO5.out W.heap.size z1 z2 rfl HK5.out (by have := HLL.out; omega) HSZ.out ?_)
      intro v6 w6 o6 g6
      have HBS : Hid (bq (gnF pXR ls) (gnF pXI ls) (p, r) = some (z1, z2)) := by show _ = _; rw [HQQ.out]; simp
      have HO6 : Hid (Ow .i64 3 B0 w6 v6 (bqL (gnF pXR ls) (gnF pXI ls) (prS ls pl (j + 1)))) := by
        show Ow .i64 3 B0 w6 v6 _
        rw [HE.out, bqL_app _ _ _ _ _ _ HBS.out]; exact o6
      have HB6 : Hid (Below w.heap.size w w6) := HB5.out.trans (grown_below g6 HB5.out.size (fun k e => by have := (World.ownsRow.lt HO5.out k e).1; rw [HP.out]; exact this))
      have fX : ∀ {G : Nat} {cs : Array Value}, Blk W5 G cs 38 → Blk w6 G cs 38 := fun {G cs} hk => by
        rw [Blk, g6.block G hk.lt (fun e => by
          rcases ow_ne_blk HO5.out hk (by decide) with h | h
          · rw [h] at e; cases e
          · exact h e.symm)]
        exact hk
      have HX6 : Hid (Blk w6 X #[.float .f64 u, .float .f64 qq] 38) := fX HX5.out
      have HS6 : Hid (S w6) := (HSS.out _).2 (fX HY5.out)
      have HA6 : Hid (∀ x ∈ prS ls pl (j + 1), (bq (gnF pXR ls) (gnF pXI ls) x).isSome = true) := fun z hz => by
        rw [HE.out] at hz
        rcases List.mem_append.1 hz with h | h
        · exact hA.out z h
        · simp at h; subst h; rw [HBS.out]; rfl
      clear o6 g6 fX HO5 HB5 HX5 HY5 HS5 HK5 HLL HSZ
      go_wp2
      refine ⟨HS6.out, tail_step ?_⟩
      go_wp2
      refine ⟨HS6.out, tail_end ?_⟩
      go_wp2
      go_roundw
      case rel => exact ⟨j + 1, _, by omega, by go_num, rfl, HO6.out, HA6.out, HX6.out, HB6.out⟩
      case measure => simp [intOf]; omega

end Go.Proofs.Ytginhbcenfobcaa
