/- Rows of truths; no condition. -/
import Derived.Test.YtikgempdohpdjaaChm
namespace Go.Proofs.Ytikgempdohpdjaa
open Go.RowKit Go.ChangeShapes Go.WideShapes Go.ChangeAt
set_option linter.unusedVariables false
set_option linter.unusedSimpArgs false
set_option maxRecDepth 8000

/-- the slice v reads as the truths bs -/
def Rb (w : World) (v : Value) (bs : List Bool) : Prop :=
  ∃ a cap, v = .slice a bs.length cap ∧ bs.length ≤ cap ∧ cap ≤ maxLen ∧ (bs = [] ∨ ∃ b off, a = some ⟨b, off, none⟩ ∧ ∀ i, i < bs.length → w.cell? ⟨b, off + i, none⟩ = some (.bool (bs.getD i false)))
def Ob (base : Nat) (w : World) (v : Value) (bs : List Bool) : Prop := w.ownsRow base 4 1 v bs.length (bs.map Value.bool)
theorem Rb.grown {w w' : World} {v : Value} {bs : List Bool} {row : Option Nat} (h : Rb w v bs) (hg : w.grownBy w' row) (hne : v.ownBlock = none ∨ v.ownBlock ≠ row) : Rb w' v bs := by
  obtain ⟨a, cap, rfl, h1, h2, h3⟩ := h
  refine ⟨a, cap, rfl, h1, h2, ?_⟩
  rcases h3 with h3 | ⟨b, off, rfl, h4⟩
  · exact .inl h3
  · refine .inr ⟨b, off, rfl, fun i hi => ?_⟩
    have hc := h4 i hi
    have hlt : b < w.heap.size := block_lt_of_cell hc
    rw [World.cell?_of_block (w := w) (hg.block b hlt (by simpa [Value.ownBlock] using hne))]
    exact hc
theorem Rb.below {w w' : World} {v : Value} {bs : List Bool} (h : Rb w v bs) (hb : Below w.heap.size w w') : Rb w' v bs :=
  h.grown (row := none) ⟨hb.os, hb.tape, hb.output, hb.size, fun j hj _ => hb.block j hj⟩ (by cases v.ownBlock <;> simp)
theorem Ob.below {base : Nat} {w w' : World} {v : Value} {bs : List Bool} (h : Ob base w v bs) (hb : Below w.heap.size w w') : Ob base w' v bs :=
  World.ownsRow.kept (row := none) h ⟨hb.os, hb.tape, hb.output, hb.size, fun j hj _ => hb.block j hj⟩ (by cases v.ownBlock <;> simp)
theorem Ob.rd {base : Nat} {w : World} {v : Value} {bs : List Bool} (h : Ob base w v bs) : Rb w v bs := by
  rcases h.2 with ⟨rfl, hn⟩ | ⟨g, cap, cur, rfl, hb, hg, hnc, hcm, hcs, ht⟩
  · exact ⟨none, 0, by rw [hn], by omega, by simp, .inl (List.eq_nil_of_length_eq_zero hn)⟩
  · refine ⟨_, cap, rfl, hnc, hcm, .inr ⟨g, 0, rfl, fun i hi => ?_⟩⟩
    have := World.ownsRow.cellAt h i (by omega)
    rw [Nat.zero_add, this]
    simp [List.getElem?_eq_getElem hi]
theorem Ob.mono {base base' : Nat} {w : World} {v : Value} {bs : List Bool} (h : Ob base w v bs) (hb : base' ≤ base) : Ob base' w v bs := by
  refine ⟨h.1, ?_⟩
  rcases h.2 with h2 | ⟨g, cap, cur, hv, hg, r⟩
  · exact .inl h2
  · exact .inr ⟨g, cap, cur, hv, by omega, r⟩
theorem Ob.alloc {base : Nat} {w : World} {v : Value} {bs : List Bool} (h : Ob base w v bs) (o : Obj) : Ob base (w.alloc o) v bs := World.ownsRow.alloc h o
theorem Ob.nil (base : Nat) (w : World) : Ob base w (.slice none 0 0) [] := World.ownsRow_nil w base 4 1
theorem Ob.empty (base : Nat) (w : World) (hb : base ≤ w.heap.size) : Ob base (w.alloc (.cells #[] 4)) (.slice (some ⟨w.heap.size, 0, none⟩) 0 0) [] :=
  World.ownsRow_lit w #[] 0 hb (by simp) (by simp)
theorem Ob.belowOf {base : Nat} {w w' : World} {v : Value} {bs : List Bool} (h : Ob base w v bs) (hg : w.grownBy w' v.ownBlock) (hb : base ≤ w.heap.size) : Below base w w' :=
  grown_below hg hb fun j hj => (World.ownsRow.lt h j hj).1
theorem toLInfo : (Try.prog.info? 4).map (fun i => (i.zero, i.size, i.bytes)) = some (some (.bool false), 1, 1) := by kernel_rfl
theorem appB {ops : Array Oper} {rest : List Oper} {o : Oper} {a : Act} {w : World} {Q : Exit → Act → World → Prop} (hgd : o.guard = none) (s x : Operand)
    (ho : o.op = .call { callee := .builtin .append, args := #[s, x], argTypes := #[44, 44] }) (base : Nat) (v : Value) (zs : List Bool) (hs : a.eval s = v) (hown : Ob base w v zs)
    (g : Nat) (z : Bool) (hx : a.eval x = .slice (some ⟨g, 0, none⟩) 1 1) (hc : w.cell? ⟨g, 0, none⟩ = some (.bool z)) (hl : zs.length ≤ 1099511627776) (hbase : base ≤ w.heap.size)
    (h : ∀ v' w', Ob base w' v' (zs ++ [z]) → Below base w w' → wpList Try.prog ops Q rest (a.put o.dst v') w') : wpList Try.prog ops Q (o :: rest) a w := by
  obtain ⟨i0, hi, hz0, hz1, hz2⟩ := info_parts toLInfo
  refine wpList_append_own w hgd s x 44 ho base 4 i0 (.bool false) 1 1 Try.underlying44 hi hz0 hz1 hz2 rfl (by decide) v zs.length (zs.map Value.bool) hs hown ⟨g, 0, none⟩ 1 1 [.bool z] hx rfl ?_ ?_ ?_ ?_ hbase ?_
  · intro j u hj
    match j, hj with
    | 0, hj => simp at hj; subst hj; simpa [Addr.add] using hc
  · intro u hu; simp at hu; subst hu; rfl
  · unfold maxLen; omega
  · omega
  · intro v' w' h1 h2 h3
    refine h v' w' ?_ (hown.belowOf h2 hbase)
    simpa [Ob] using h1
/-- the first j of zs, false behind -/
def mxB (zs : List Bool) (j : Nat) : List Bool := zs.take j ++ List.replicate (zs.length - j) false
theorem mxB_len (zs : List Bool) (j : Nat) (h : j ≤ zs.length) : (mxB zs j).length = zs.length := by simp [mxB]; omega
theorem mxB_full (zs : List Bool) : mxB zs zs.length = zs := by simp [mxB]
theorem mxB_step (zs : List Bool) (j : Nat) (h : j < zs.length) : (mxB zs j).set j (zs.getD j false) = mxB zs (j + 1) := by
  have e : List.replicate (zs.length - j) false = false :: List.replicate (zs.length - (j + 1)) false := by
    rw [show zs.length - j = (zs.length - (j + 1)) + 1 by omega, List.replicate_succ]
  have t : zs.take (j + 1) = zs.take j ++ [zs.getD j false] := by
    rw [List.take_succ_eq_append_getElem h]; simp [List.getElem?_eq_getElem h]
  have hm : min j zs.length = j := by omega
  rw [mxB, mxB, e, t]
  simp [List.set_append, hm]
theorem mxB_set (zs : List Bool) (j : Nat) (h : j < zs.length) : ((mxB zs j).map Value.bool).set j (.bool (zs.getD j false)) = (mxB zs (j + 1)).map Value.bool := by
  rw [← List.map_set, mxB_step zs j h]
theorem mxB_no (zs : List Bool) (j : Nat) (h : j < zs.length) (hf : zs.getD j false = false) : mxB zs j = mxB zs (j + 1) := by
  rw [← mxB_step zs j h, hf]
  have e : List.replicate (zs.length - j) false = false :: List.replicate (zs.length - (j + 1)) false := by
    rw [show zs.length - j = (zs.length - (j + 1)) + 1 by omega, List.replicate_succ]
  have hm : min j zs.length = j := by omega
  rw [mxB, e]
  simp [List.set_append, hm]
theorem extB {a b : List Bool} (hl : a.length = b.length) (h : ∀ j, j < a.length → a.getD j false = b.getD j false) : a = b := by
  apply List.ext_getElem hl
  intro i h1 h2
  have := h i h1
  simpa [List.getElem?_eq_getElem h1, List.getElem?_eq_getElem h2] using this
theorem rbc {w : World} {a : Option Addr} {n cap : Nat} {zs : List Bool} (h : Rb w (.slice a n cap) zs) : ∀ W j, j < zs.length → Below w.heap.size w W → ∃ bo : Nat × Nat, a = some ⟨bo.1, bo.2, none⟩ ∧ bo.1 < w.heap.size ∧ W.cell? ⟨bo.1, bo.2 + j, none⟩ = some (.bool (zs.getD j false)) := fun W j hj hW => by
  obtain ⟨a', cap', he, -, -, h3⟩ := h
  cases he
  rcases h3 with h3 | ⟨b, off, h0, h4⟩
  · rw [h3] at hj; simp at hj
  · have hc := h4 j hj
    exact ⟨(b, off), h0, block_lt_of_cell hc, by rw [hW.cell (block_lt_of_cell hc)]; exact hc⟩
set_option maxHeartbeats 1600000 in
/-- two that are alike are found so -/
theorem eqBS (v v' : Value) (xs : List Bool) (w : World) (h : Rb w v xs) (h' : Rb w v' xs) :
   Calls Try.prog 40 #[v, v'] w fun e w' => e = .returned (.bool true) ∧ Below w.heap.size w w' := by
  obtain ⟨a, cap, rfl, h1, h2, -⟩ := id h
  obtain ⟨a', cap', rfl, h1', h2', -⟩ := id h'
  unfold maxLen at h2 h2'
  have HC : Hid (∀ W j, j < xs.length → Below w.heap.size w W → ∃ bo : Nat × Nat, a = some ⟨bo.1, bo.2, none⟩ ∧ bo.1 < w.heap.size ∧ W.cell? ⟨bo.1, bo.2 + j, none⟩ = some (.bool (xs.getD j false))) := rbc h
  have HC' : Hid (∀ W j, j < xs.length → Below w.heap.size w W → ∃ bo : Nat × Nat, a' = some ⟨bo.1, bo.2, none⟩ ∧ bo.1 < w.heap.size ∧ W.cell? ⟨bo.1, bo.2 + j, none⟩ = some (.bool (xs.getD j false))) := rbc h'
  obtain ⟨L, hL⟩ : ∃ L, xs.length = L := ⟨_, rfl⟩
  rw [hL] at h1 h1' HC HC' ⊢
  clear h h' hL
  have hn : ((L : Int) != (L : Int)) = false := by simp
  go_enter Try.func40, Try.ntmps40
  go_wp2
  go_loopw [5] (fun i wr => ∃ j : Nat, j ≤ L ∧ i = .int .i64 j ∧ Hid (Below w.heap.size w wr)) (fun i _ => L - (intOf i).toNat)
  case atStart => exact ⟨0, Nat.zero_le _, rfl, Below.refl _ _⟩
  case round =>
    obtain ⟨j, hj, rfl, hB⟩ := hrel
    by_cases hlt : j < L
    case neg =>
      obtain rfl : j = L := by omega
      clear hlt hj
      go_wp2
      go_ret
      exact ⟨rfl, hB.out⟩
    case pos =>
    obtain ⟨⟨b, off⟩, rfl, hbl, hc0⟩ := HC.out wr j hlt hB.out
    obtain ⟨⟨b', off'⟩, rfl, hbl', hc1⟩ := HC'.out wr j hlt hB.out
    dsimp only at hc0 hc1 hbl hbl'
    obtain ⟨x, hx⟩ : ∃ x, xs.getD j false = x := ⟨_, rfl⟩
    rw [hx] at hc0 hc1
    have hi0 : (0 : Int) ≤ (j : Int) := by omega
    have hi1 : (j : Int) < (L : Int) := by omega
    have hxx : (x != x) = false := by simp
    clear hx
    go_wp2
    go_quiet (fail)
    go_wp2
    go_roundw
    case rel => exact ⟨j + 1, by omega, by go_num, below_drewN hB.out _⟩
    case measure => simp [intOf]; omega
/-- the marks -/
def bmk (q : Int) (n : Nat) : List Bool := (List.range n).map fun i : Nat => ((q + (i : Int)) % 3 == 0)
theorem bmk_len (q : Int) (n : Nat) : (bmk q n).length = n := by simp [bmk]
theorem bmk_at (q : Int) (n i : Nat) (h : i < n) : (bmk q n).getD i false = ((q + i) % 3 == 0) := by simp [bmk, List.getElem?_map, List.getElem?_range h]
def bmx (q : Int) (zs : List Bool) (j : Nat) : List Bool := bmk q j ++ zs.drop j
theorem bmx_len (q : Int) (zs : List Bool) (j : Nat) (h : j ≤ zs.length) : (bmx q zs j).length = zs.length := by simp [bmx, bmk_len]; omega
theorem bmx_set (q : Int) (zs : List Bool) (j : Nat) (h : j < zs.length) : ((bmx q zs j).map Value.bool).set j (.bool ((q + j) % 3 == 0)) = (bmx q zs (j + 1)).map Value.bool := by
  rw [← List.map_set]
  congr 1
  have e : zs.drop j = zs[j] :: zs.drop (j + 1) := List.drop_eq_getElem_cons h
  have m : bmk q (j + 1) = bmk q j ++ [((q + j) % 3 == 0)] := by simp [bmk, List.range_succ]
  rw [bmx, bmx, e, m, List.set_append]
  simp only [bmk_len, Nat.lt_irrefl, if_false, Nat.sub_self, List.set_cons_zero, List.append_assoc, List.cons_append, List.nil_append]
set_option maxHeartbeats 1600000 in
theorem markB (v : Value) (zs : List Bool) (q : Int) (base : Nat) (w : World) (h : Ob base w v zs) (h0 : 0 ≤ q) (hq : q + zs.length ≤ 1152921504606846976) :
   Calls Try.prog 41 #[v, .int .i64 q] w fun e w' => e = .returned (.int .i64 (q + zs.length)) ∧ Ob base w' v (bmk q zs.length) ∧ w.grownBy w' v.ownBlock := by
  have HO : Hid (Ob base w v zs) := h
  obtain ⟨a, cap, hv, h1, h2, h3⟩ := own_form h
  subst hv
  have HM : Hid (bmx q zs zs.length = bmk q zs.length) := by show _ = _; simp [bmx]
  have HS : Hid (∀ j, j < zs.length → ((bmx q zs j).map Value.bool).set j (.bool ((q + j) % 3 == 0)) = (bmx q zs (j + 1)).map Value.bool) := fun j hj => bmx_set q zs j hj
  have HN : Hid (∀ j, j ≤ zs.length → (bmx q zs j).length = zs.length) := fun j hj => bmx_len q zs j hj
  have HO1 : Hid (w.ownsRow base 4 1 (.slice a zs.length cap) zs.length ((bmx q zs 0).map Value.bool)) := by
    have e : bmx q zs 0 = zs := by simp [bmx, bmk]
    show World.ownsRow _ _ _ _ _ _ _
    rw [e]; exact h
  have HFIN : Hid (∀ W, W.ownsRow base 4 1 (.slice a zs.length cap) zs.length ((bmx q zs zs.length).map Value.bool) → Ob base W (.slice a zs.length cap) (bmk q zs.length)) := fun W hW => by rw [Ob, bmk_len, ← HM.out]; exact hW
  obtain ⟨L, hL⟩ : ∃ L, zs.length = L := ⟨_, rfl⟩
  rw [hL] at h1 h3 hq HS HN HFIN HO1 ⊢
  clear h hL HO HM
  go_enter Try.func41, Try.ntmps41
  go_wp2
  go_loopw [1, 5] (fun k i wr => ∃ j : Nat, j ≤ L ∧ i = .int .i64 j ∧ k = .int .i64 (q + j) ∧ Hid (wr.ownsRow base 4 1 (.slice a L cap) L ((bmx q zs j).map Value.bool)) ∧ Hid (w.grownBy wr (Value.slice a L cap).ownBlock)) (fun _ i _ => L - (intOf i).toNat)
  case atStart => exact ⟨0, Nat.zero_le _, rfl, by simp, HO1.out, grown_refl _ _⟩
  case round =>
    obtain ⟨j, hj, rfl, rfl, hO, hG⟩ := hrel
    clear HO1
    by_cases hlt : j < L
    case neg =>
      obtain rfl : j = L := by omega
      clear hlt hj
      go_wp2
      go_ret
      exact ⟨rfl, HFIN.out _ hO.out, hG.out⟩
    case pos =>
    rcases h3 with h3 | ⟨b, rfl⟩
    · omega
    have hd : ∃ u, wr.cell? ⟨b, j, none⟩ = some u := by
      rw [hO.out.cellAt j (by omega)]
      exact ⟨_, List.getElem?_eq_getElem (by simp [HN.out j hj]; exact hlt)⟩
    obtain ⟨u, hd⟩ := hd
    have hf := hO.out.frozenAt j
    obtain ⟨k, hk⟩ : ∃ k : Int, q + j = k := ⟨_, rfl⟩
    have hs := hO.out.stored j (.bool (k % 3 == 0))
    have e := HS.out j hlt
    rw [hk] at e
    rw [e] at hs
    have HSS : Hid ((wr.setCell ⟨b, j, none⟩ (.bool (k % 3 == 0))).ownsRow base 4 1 (.slice (some ⟨b, 0, none⟩) L cap) L ((bmx q zs (j + 1)).map Value.bool)) := hs.1
    have HGN : Hid (w.grownBy (wr.setCell ⟨b, j, none⟩ (.bool (k % 3 == 0))) (Value.slice (some ⟨b, 0, none⟩) L cap).ownBlock) := grown_trans hG.out (by
      refine ⟨rfl, rfl, rfl, by simp, fun i hi hne => ?_⟩
      exact heap_setCell_other wr ⟨b, j, none⟩ i _ (fun e => hne (by rw [e]; rfl)))
    have hk0 : 0 ≤ k := by omega
    have hk1 : k ≤ 1152921504606846976 := by omega
    have HK : Hid (q + j = k) := hk
    rw [hk]
    clear hs e hO hG hk
    go_wp2
    go_roundw
    case rel => exact ⟨j + 1, by omega, by go_num, by rw [← HK.out]; push_cast; congr 1; omega, HSS.out, HGN.out⟩
    case measure => simp [intOf]; omega
set_option maxHeartbeats 1600000 in
theorem heldB (v : Value) (q : Int) (n : Nat) (w : World) (h : Rb w v (bmk q n)) (h0 : 0 ≤ q) (hq : q + n ≤ 1152921504606846976) :
   Calls Try.prog 42 #[v, .int .i64 q] w fun e w' => e = .returned (.int .i64 (q + n)) ∧ Below w.heap.size w w' := by
  obtain ⟨a, cap, rfl, h1, h2, -⟩ := id h
  unfold maxLen at h2
  have HC : Hid (∀ W j, j < (bmk q n).length → Below w.heap.size w W → ∃ bo : Nat × Nat, a = some ⟨bo.1, bo.2, none⟩ ∧ bo.1 < w.heap.size ∧ W.cell? ⟨bo.1, bo.2 + j, none⟩ = some (.bool ((bmk q n).getD j false))) := rbc h
  have HA : Hid (∀ j, j < n → (bmk q n).getD j false = ((q + j) % 3 == 0)) := fun j hj => bmk_at q n j hj
  rw [bmk_len] at h1 HC ⊢
  clear h
  go_enter Try.func42, Try.ntmps42
  go_wp2
  go_loopw [1, 5] (fun k i wr => ∃ j : Nat, j ≤ n ∧ i = .int .i64 j ∧ k = .int .i64 (q + j) ∧ Hid (Below w.heap.size w wr)) (fun _ i _ => n - (intOf i).toNat)
  case atStart => exact ⟨0, Nat.zero_le _, rfl, by simp, Below.refl _ _⟩
  case round =>
    obtain ⟨j, hj, rfl, rfl, hB⟩ := hrel
    by_cases hlt : j < n
    case neg =>
      obtain rfl : j = n := by omega
      clear hlt hj
      go_wp2
      go_ret
      exact ⟨rfl, hB.out⟩
    case pos =>
    obtain ⟨⟨b, off⟩, rfl, hbl, hc0⟩ := HC.out wr j hlt hB.out
    rw [HA.out j hlt] at hc0
    dsimp only at hc0 hbl
    obtain ⟨k, hk⟩ : ∃ k : Int, q + j = k := ⟨_, rfl⟩
    rw [hk] at hc0 ⊢
    obtain ⟨x, hx⟩ : ∃ x, (k % 3 == 0) = x := ⟨_, rfl⟩
    rw [hx] at hc0
    have hxx : (x != x) = false := by simp
    have hk0 : 0 ≤ k := by omega
    have hk1 : k ≤ 1152921504606846976 := by omega
    have hi0 : (0 : Int) ≤ (j : Int) := by omega
    have hi1 : (j : Int) < (n : Int) := by omega
    have HK : Hid (q + j = k) := hk
    clear hk
    go_wp2
    go_roundw
    case rel => exact ⟨j + 1, by omega, by go_num, by rw [← HK.out]; push_cast; congr 1; omega, hB.out⟩
    case measure => simp [intOf]; omega

end Go.Proofs.Ytikgempdohpdjaa
