/- Slices of whole numbers: what it is to be read, to be owned; contracts of the laws' helpers that copy, compare, mark and look at them; no condition. -/
import Derived.Test.YtljejjfhlpjlfaaBase
import Derived.Deep.QuietTactic
import Derived.BigQuiet
import Derived.OwnWalk
namespace Go.Proofs.Ytljejjfhlpjlfaa
open Go.RowKit Go.ChangeShapes Go.WideShapes Go.ChangeAt
set_option linter.unusedVariables false
set_option linter.unusedSimpArgs false
/-- the slice v reads as the numbers zs -/
def Rd (k : IntKind) (w : World) (v : Value) (zs : List Int) : Prop :=
  ∃ a cap, v = .slice a zs.length cap ∧ zs.length ≤ cap ∧ cap ≤ maxLen ∧ (zs = [] ∨ ∃ b off, a = some ⟨b, off, none⟩ ∧ ∀ i, i < zs.length → w.cell? ⟨b, off + i, none⟩ = some (.int k (zs.getD i 0)))
/-- the slice v, among the blocks from base on, owns the numbers zs -/
def Ow (k : IntKind) (e : TypeId) (base : Nat) (w : World) (v : Value) (zs : List Int) : Prop := w.ownsRow base e 1 v zs.length (zs.map (Value.int k))
theorem Rd.grown {k : IntKind} {w w' : World} {v : Value} {zs : List Int} {row : Option Nat} (h : Rd k w v zs) (hg : w.grownBy w' row) (hne : v.ownBlock = none ∨ v.ownBlock ≠ row) : Rd k w' v zs := by
  obtain ⟨a, cap, rfl, h1, h2, h3⟩ := h
  refine ⟨a, cap, rfl, h1, h2, ?_⟩
  rcases h3 with h3 | ⟨b, off, rfl, h4⟩
  · exact .inl h3
  · refine .inr ⟨b, off, rfl, fun i hi => ?_⟩
    have hc := h4 i hi
    have hlt : b < w.heap.size := block_lt_of_cell hc
    rw [World.cell?_of_block (w := w) (hg.block b hlt (by simpa [Value.ownBlock] using hne))]
    exact hc
theorem Rd.below {k : IntKind} {w w' : World} {v : Value} {zs : List Int} (h : Rd k w v zs) (hb : Below w.heap.size w w') : Rd k w' v zs :=
  h.grown (row := none) ⟨hb.os, hb.tape, hb.output, hb.size, fun j hj _ => hb.block j hj⟩ (by cases v.ownBlock <;> simp)
theorem Ow.below {k : IntKind} {e : TypeId} {base : Nat} {w w' : World} {v : Value} {zs : List Int} (h : Ow k e base w v zs) (hb : Below w.heap.size w w') : Ow k e base w' v zs :=
  World.ownsRow.kept (row := none) h ⟨hb.os, hb.tape, hb.output, hb.size, fun j hj _ => hb.block j hj⟩ (by cases v.ownBlock <;> simp)
theorem Ow.rd {k : IntKind} {e : TypeId} {base : Nat} {w : World} {v : Value} {zs : List Int} (h : Ow k e base w v zs) : Rd k w v zs := by
  rcases h.2 with ⟨rfl, hn⟩ | ⟨g, cap, cur, rfl, hb, hg, hnc, hcm, hcs, ht⟩
  · exact ⟨none, 0, by rw [hn], by omega, by simp, .inl (List.eq_nil_of_length_eq_zero hn)⟩
  · refine ⟨_, cap, rfl, hnc, hcm, .inr ⟨g, 0, rfl, fun i hi => ?_⟩⟩
    have := World.ownsRow.cellAt h i (by omega)
    rw [Nat.zero_add, this]
    simp [List.getElem?_eq_getElem hi]
theorem Ow.mono {k : IntKind} {e : TypeId} {base base' : Nat} {w : World} {v : Value} {zs : List Int} (h : Ow k e base w v zs) (hb : base' ≤ base) : Ow k e base' w v zs := by
  refine ⟨h.1, ?_⟩
  rcases h.2 with h2 | ⟨g, cap, cur, hv, hg, r⟩
  · exact .inl h2
  · exact .inr ⟨g, cap, cur, hv, by omega, r⟩
/-- the block of one is not the block of the other -/
theorem own_ne {k k' : IntKind} {e e' : TypeId} {base base' : Nat} {w w' : World} {v v' : Value} {zs zs' : List Int} (h : Ow k e base w v zs) (h' : Ow k' e' base' w' v' zs') (hb : w.heap.size ≤ base') :
    v.ownBlock = none ∨ v.ownBlock ≠ v'.ownBlock := by
  cases hv : v.ownBlock with
  | none => exact .inl rfl
  | some j =>
    refine .inr fun e => ?_
    have h1 := World.ownsRow.lt h j hv
    have h2 := World.ownsRow.lt h' j e.symm
    omega
theorem own_ne' {k k' : IntKind} {e e' : TypeId} {base base' : Nat} {w w' : World} {v v' : Value} {zs zs' : List Int} (h : Ow k e base w v zs) (h' : Ow k' e' base' w' v' zs') (hb : w.heap.size ≤ base') :
    v'.ownBlock = none ∨ v'.ownBlock ≠ v.ownBlock := by
  rcases own_ne h h' hb with h1 | h1
  · cases hv : v'.ownBlock with
    | none => exact .inl rfl
    | some j => rw [h1]; exact .inr (by simp)
  · exact .inr (Ne.symm h1)
/-- the first j of zs, noughts behind -/
def mix (zs : List Int) (j : Nat) : List Int := zs.take j ++ List.replicate (zs.length - j) 0
theorem mix_len (zs : List Int) (j : Nat) (h : j ≤ zs.length) : (mix zs j).length = zs.length := by simp [mix]; omega
theorem mix_full (zs : List Int) : mix zs zs.length = zs := by simp [mix]
theorem mix_set (k : IntKind) (zs : List Int) (j : Nat) (h : j < zs.length) : ((mix zs j).map (Value.int k)).set j (.int k (zs.getD j 0)) = (mix zs (j + 1)).map (Value.int k) := by
  have e : List.replicate (zs.length - j) (0 : Int) = 0 :: List.replicate (zs.length - (j + 1)) 0 := by
    rw [show zs.length - j = (zs.length - (j + 1)) + 1 by omega, List.replicate_succ]
  have t : zs.take (j + 1) = zs.take j ++ [zs.getD j 0] := by
    rw [List.take_succ_eq_append_getElem h]; simp [List.getElem?_eq_getElem h]
  have hm : min j zs.length = j := by omega
  rw [← List.map_set, mix, mix, e, t]
  simp [List.set_append, hm]
/-- numbers that agree at each place are the same -/
theorem ext_getD {a b : List Int} (hl : a.length = b.length) (h : ∀ j, j < a.length → a.getD j 0 = b.getD j 0) : a = b := by
  apply List.ext_getElem hl
  intro i h1 h2
  have := h i h1
  simpa [List.getElem?_eq_getElem h1, List.getElem?_eq_getElem h2] using this
theorem wrap_u8 (x : Int) : IntKind.wrap .u8 x = x % 256 := by simp [IntKind.wrap, IntKind.signed, IntKind.bits]
/-- the marks that the laws lay: n of them from q on -/
def marks (k : IntKind) (q : Int) (n : Nat) : List Int := (List.range n).map fun i : Nat => k.wrap (q + (i : Int))
theorem marks_len (k : IntKind) (q : Int) (n : Nat) : (marks k q n).length = n := by simp [marks]
theorem marks_at (k : IntKind) (q : Int) (n i : Nat) (h : i < n) : (marks k q n).getD i 0 = k.wrap (q + i) := by simp [marks, List.getElem?_map, List.getElem?_range h]
/-- the first j places marked, the rest as it was -/
def mk (k : IntKind) (q : Int) (zs : List Int) (j : Nat) : List Int := marks k q j ++ zs.drop j
theorem mk_len (k : IntKind) (q : Int) (zs : List Int) (j : Nat) (h : j ≤ zs.length) : (mk k q zs j).length = zs.length := by simp [mk, marks_len]; omega
theorem mk_set (k : IntKind) (q : Int) (zs : List Int) (j : Nat) (h : j < zs.length) : ((mk k q zs j).map (Value.int k)).set j (.int k (k.wrap (q + j))) = (mk k q zs (j + 1)).map (Value.int k) := by
  rw [← List.map_set]
  congr 1
  have e : zs.drop j = zs[j] :: zs.drop (j + 1) := List.drop_eq_getElem_cons h
  have m : marks k q (j + 1) = marks k q j ++ [k.wrap (q + j)] := by simp [marks, List.range_succ]
  rw [mk, mk, e, m, List.set_append]
  simp only [marks_len, Nat.lt_irrefl, if_false, Nat.sub_self, List.set_cons_zero, List.append_assoc, List.cons_append, List.nil_append]

theorem toBInfo : (Try.prog.info? 5).map (fun i => (i.zero, i.size, i.bytes)) = some (some (.int .u8 0), 1, 1) := by kernel_rfl
theorem toIInfo : (Try.prog.info? 3).map (fun i => (i.zero, i.size, i.bytes)) = some (some (.int .i64 0), 1, 8) := by kernel_rfl
end Go.Proofs.Ytljejjfhlpjlfaa
namespace Go.Proofs.Ytljejjfhlpjlfaa
open Go.RowKit Go.ChangeShapes Go.WideShapes Go.ChangeAt
set_option linter.unusedVariables false
set_option linter.unusedSimpArgs false
theorem Ow.alloc {k : IntKind} {e : TypeId} {base : Nat} {w : World} {v : Value} {zs : List Int} (h : Ow k e base w v zs) (o : Obj) : Ow k e base (w.alloc o) v zs := World.ownsRow.alloc h o
theorem Ow.nil (k : IntKind) (e : TypeId) (base : Nat) (w : World) : Ow k e base w (.slice none 0 0) [] := World.ownsRow_nil w base e 1
theorem Ow.empty (k : IntKind) (e : TypeId) (base : Nat) (w : World) (hb : base ≤ w.heap.size) : Ow k e base (w.alloc (.cells #[] e)) (.slice (some ⟨w.heap.size, 0, none⟩) 0 0) [] :=
  World.ownsRow_lit w #[] 0 hb (by simp) (by simp)
/-- below base nothing has turned, where what was written is owned from base on -/
theorem Ow.belowOf {k : IntKind} {e : TypeId} {base : Nat} {w w' : World} {v : Value} {zs : List Int} (h : Ow k e base w v zs) (hg : w.grownBy w' v.ownBlock) (hb : base ≤ w.heap.size) : Below base w w' :=
  grown_below hg hb fun j hj => (World.ownsRow.lt h j hj).1
theorem app1 {k : IntKind} {T E : TypeId} {by' : Nat} (hT : Try.prog.underlying T = some (.slice E)) (hI : (Try.prog.info? E).map (fun i => (i.zero, i.size, i.bytes)) = some (some (.int k 0), 1, by')) (hby : by' ≤ 8)
    {ops : Array Oper} {rest : List Oper} {o : Oper} {a : Act} {w : World} {Q : Exit → Act → World → Prop} (hgd : o.guard = none) (s x : Operand)
    (ho : o.op = .call { callee := .builtin .append, args := #[s, x], argTypes := #[T, T] }) (base : Nat) (v : Value) (zs : List Int) (hs : a.eval s = v) (hown : Ow k E base w v zs)
    (g : Nat) (z : Int) (hx : a.eval x = .slice (some ⟨g, 0, none⟩) 1 1) (hc : w.cell? ⟨g, 0, none⟩ = some (.int k z)) (hl : zs.length ≤ 1099511627776) (hbase : base ≤ w.heap.size)
    (h : ∀ v' w', Ow k E base w' v' (zs ++ [z]) → Below base w w' → wpList Try.prog ops Q rest (a.put o.dst v') w') : wpList Try.prog ops Q (o :: rest) a w := by
  obtain ⟨i0, hi, hz0, hz1, hz2⟩ := info_parts hI
  refine wpList_append_own w hgd s x T ho base E i0 (.int k 0) 1 by' hT hi hz0 hz1 hz2 rfl (by decide) v zs.length (zs.map (Value.int k)) hs hown ⟨g, 0, none⟩ 1 1 [.int k z] hx rfl ?_ ?_ ?_ ?_ hbase ?_
  · intro j u hj
    match j, hj with
    | 0, hj => simp at hj; subst hj; simpa [Addr.add] using hc
  · intro u hu; simp at hu; subst hu; rfl
  · unfold maxLen; omega
  · have : (zs.length + 1) * by' ≤ (zs.length + 1) * 8 := Nat.mul_le_mul_left _ hby
    omega
  · intro v' w' h1 h2 h3
    refine h v' w' ?_ (hown.belowOf h2 hbase)
    simpa [Ow] using h1
theorem appI {ops : Array Oper} {rest : List Oper} {o : Oper} {a : Act} {w : World} {Q : Exit → Act → World → Prop} (hgd : o.guard = none) (s x : Operand)
    (ho : o.op = .call { callee := .builtin .append, args := #[s, x], argTypes := #[81, 81] }) (base : Nat) (v : Value) (zs : List Int) (hs : a.eval s = v) (hown : Ow .i64 3 base w v zs)
    (g : Nat) (z : Int) (hx : a.eval x = .slice (some ⟨g, 0, none⟩) 1 1) (hc : w.cell? ⟨g, 0, none⟩ = some (.int .i64 z)) (hl : zs.length ≤ 1099511627776) (hbase : base ≤ w.heap.size)
    (h : ∀ v' w', Ow .i64 3 base w' v' (zs ++ [z]) → Below base w w' → wpList Try.prog ops Q rest (a.put o.dst v') w') : wpList Try.prog ops Q (o :: rest) a w :=
  app1 Try.underlying81 toIInfo (by decide) hgd s x ho base v zs hs hown g z hx hc hl hbase h
end Go.Proofs.Ytljejjfhlpjlfaa
namespace Go.Proofs.Ytljejjfhlpjlfaa
open Go.RowKit Go.ChangeShapes Go.WideShapes Go.ChangeAt
set_option linter.unusedVariables false
set_option linter.unusedSimpArgs false
/-- block g holds a cursor over the bytes zs, which the slice cv reads as -/
structure Dr (w : World) (g : Nat) (cv : Value) (zs : List Int) : Prop where
  cur : ∃ i h : Int, Blk w g #[cv, .int .i64 i, .int .i64 h] 79 ∧ 0 ≤ i ∧ i ≤ zs.length
  rd : Rd .u8 w cv zs
  ap : zs = [] ∨ cv.ownBlock = none ∨ cv.ownBlock ≠ some g
  ok : ∀ z ∈ zs, 0 ≤ z ∧ z ≤ 255
  len : zs.length ≤ 1048576
theorem i64_and255 (n : Int) : bits .and .i64 n 255 = n % 256 := by
  have h255 : (BitVec.ofInt 64 255).toNat = 2 ^ 8 - 1 := by decide
  have key : (BitVec.ofInt 64 n &&& BitVec.ofInt 64 255).toNat = (n % ((2 ^ 64 : Nat) : Int)).toNat % 2 ^ 8 := by
    rw [BitVec.toNat_and, BitVec.toNat_ofInt, h255, Nat.and_two_pow_sub_one_eq_mod]
  show IntKind.i64.wrap ((BitVec.ofInt 64 n &&& BitVec.ofInt 64 255).toNat : Nat) = n % 256
  rw [key, IntKind.wrap_i64]
  omega
theorem and255 (x : Int) : 0 ≤ bits .and .i64 x 255 ∧ bits .and .i64 x 255 ≤ 255 := by rw [i64_and255]; omega
theorem dgrown_set (w : World) (g k : Nat) (x : Value) : w.grownBy (w.setCell ⟨g, k, none⟩ x) (some g) :=
  ⟨rfl, rfl, rfl, by simp, fun i _ hi => heap_setCell_other w ⟨g, k, none⟩ i x (fun e => hi (by simp [e]))⟩
theorem grown_drewN {w w' : World} {row : Option Nat} (h : w.grownBy w' row) (n : Nat) : w.grownBy (w'.drewN n) row := ⟨h.os, h.tape, h.output, h.size, h.block⟩
theorem grown_alloc {w w' : World} {row : Option Nat} (h : w.grownBy w' row) (o : Obj) : w.grownBy (w'.alloc o) row := grown_trans h (World.grownBy_alloc w' o row)
theorem Rd.grownE {k : IntKind} {w w' : World} {v : Value} {zs : List Int} {row : Option Nat} (h : Rd k w v zs) (hg : w.grownBy w' row) (hne : zs = [] ∨ v.ownBlock = none ∨ v.ownBlock ≠ row) : Rd k w' v zs := by
  rcases hne with h0 | hne
  · obtain ⟨a, cap, h1, h2, h3, _⟩ := h
    exact ⟨a, cap, h1, h2, h3, .inl h0⟩
  · exact h.grown hg hne
/-- a cursor, behind what turned nothing but it -/
theorem Dr.of {w w' : World} {g : Nat} {cv : Value} {zs : List Int} (h : Dr w g cv zs) (hg : w.grownBy w' (some g)) (hc : ∃ i h : Int, Blk w' g #[cv, .int .i64 i, .int .i64 h] 79 ∧ 0 ≤ i ∧ i ≤ zs.length) : Dr w' g cv zs :=
  ⟨hc, h.rd.grownE hg h.ap, h.ap, h.ok, h.len⟩
theorem Dr.lt {w : World} {g : Nat} {cv : Value} {zs : List Int} (h : Dr w g cv zs) : g < w.heap.size := by obtain ⟨i, hh, k, _⟩ := h.cur; exact k.lt
/-- a cursor, behind what turned nothing old -/
theorem Dr.below {w w' : World} {g : Nat} {cv : Value} {zs : List Int} (h : Dr w g cv zs) (hb : Below w.heap.size w w') : Dr w' g cv zs := by
  obtain ⟨i, hh, k, h1, h2⟩ := h.cur
  exact ⟨⟨i, hh, k.below hb k.lt, h1, h2⟩, h.rd.below hb, h.ap, h.ok, h.len⟩
set_option maxHeartbeats 1600000 in
theorem byte_c (g : Nat) (cv : Value) (zs : List Int) (w : World) (h : Dr w g cv zs) :
   Calls Try.prog 57 #[.pointer (some ⟨g, 0, none⟩)] w fun e w' => ∃ x : Int, e = .returned (.int .i64 x) ∧ 0 ≤ x ∧ x ≤ 255 ∧ Dr w' g cv zs ∧ w.grownBy w' (some g) := by
  have hD := h
  obtain ⟨⟨i, hh, k0, hi0, hi1⟩, hrd, hap, hok, hlen⟩ := h
  obtain ⟨a, cap, rfl, h1, h2, h3⟩ := hrd
  unfold maxLen at h2
  obtain ⟨ii, rfl⟩ := Int.eq_ofNat_of_zero_le hi0
  have c0 := k0.cell 0
  have c1 := k0.cell 1
  have c2 := k0.cell 2
  simp at c0 c1 c2
  have f1 := k0.frozen 1
  have f2 := k0.frozen 2
  have HD : Hid (Dr w g (.slice a zs.length cap) zs) := hD
  clear hD hok
  by_cases hlt : ii < zs.length
  · rcases h3 with h3 | ⟨b, off, rfl, h4⟩
    · subst h3; simp at hlt
    have hc := h4 ii hlt
    have hne : b ≠ g := by
      rcases hap with hap | hap
      · subst hap; simp at hlt
      · simpa [Value.ownBlock] using hap
    have hc' : ∀ x, (w.setCell ⟨g, 2, none⟩ x).cell? ⟨b, off + ii, none⟩ = some (.int .u8 (zs.getD ii 0)) := by
      intro x; rw [World.cell?_setCell_other _ _ _ _ (by intro e; injection e with e1; exact hne e1.symm)]; exact hc
    have hltI : (ii : Int) < (zs.length : Int) := by omega
    clear h4 hc
    go_enter Try.func57, Try.ntmps57
    go_wp2
    go_quiet (fail)
    go_wp2
    go_quiet (fail)
    go_wp2
    go_quiet (fail)
    go_wp2
    go_ret
    refine ⟨_, rfl, (and255 _).1, (and255 _).2, ?_⟩
    have hg : ∀ n, w.grownBy (((w.setCell ⟨g, 2, none⟩ (Value.int IntKind.i64 (wrap64 (wrap64 (hh * 6364136223846793005) + 1442695040888963407)))).drewN n).setCell ⟨g, 1, none⟩ (.int .i64 ((ii : Int) + 1))) (some g) := fun n => grown_trans (grown_drewN (dgrown_set _ _ _ _) n) (dgrown_set _ _ _ _)
    exact ⟨HD.out.of (hg _) ⟨(ii : Int) + 1, _, by simpa using (((k0.set 2 _).drewN _).set 1 (.int .i64 ((ii : Int) + 1))), by omega, by omega⟩, hg _⟩
  · have hltI : ¬ (ii : Int) < (zs.length : Int) := by omega
    have hd : decide ((ii : Int) < (zs.length : Int)) = false := by simp; omega
    clear h3
    go_enter Try.func57, Try.ntmps57
    go_wp2
    go_quiet (fail)
    go_wp2
    go_quiet (fail)
    go_wp2
    go_ret
    refine ⟨_, rfl, (and255 _).1, (and255 _).2, ?_⟩
    have hg : ∀ n n', w.grownBy (((w.setCell ⟨g, 2, none⟩ (Value.int IntKind.i64 (wrap64 (wrap64 (hh * 6364136223846793005) + 1442695040888963407)))).drewN n).drewN n') (some g) := fun n n' => grown_drewN (grown_drewN (dgrown_set _ _ _ _) n) n'
    exact ⟨HD.out.of (hg _ _) ⟨(ii : Int), _, by simpa using (((k0.set 2 _).drewN _).drewN _), by omega, by omega⟩, hg _ _⟩
set_option maxHeartbeats 1600000 in
theorem below_c (g : Nat) (cv : Value) (zs : List Int) (n : Int) (w : World) (h : Dr w g cv zs) (hn : n ≤ 1099511627776) :
   Calls Try.prog 35 #[.pointer (some ⟨g, 0, none⟩), .int .i64 n] w fun e w' => ∃ x : Int, e = .returned (.int .i64 x) ∧ 0 ≤ x ∧ (0 < n → x < n) ∧ (n ≤ 0 → x = 0) ∧ Dr w' g cv zs ∧ w.grownBy w' (some g) := by
  by_cases h0 : n ≤ 0
  · go_enter Try.func35, Try.ntmps35
    go_wp2
    go_ret
    exact ⟨_, rfl, by omega, by omega, fun _ => rfl, h, grown_refl _ _⟩
  · have h0' : ¬ n ≤ 0 := h0
    by_cases h256 : n ≤ 256
    · go_enter Try.func35, Try.ntmps35
      go_wp2_with fail
      refine (byte_c g cv zs _ h).mono ?_
      rintro e w1 ⟨x, rfl, x0, x1, d1, g1⟩
      go_wp2
      go_ret
      exact ⟨_, rfl, Int.emod_nonneg _ (by omega), fun _ => Int.emod_lt_of_pos _ (by omega), fun h => by omega, d1, g1⟩
    · go_enter Try.func35, Try.ntmps35
      go_wp2_with fail
      refine (byte_c g cv zs _ h).mono ?_
      rintro e w1 ⟨x, rfl, x0, x1, d1, g1⟩
      go_wp2_with fail
      refine (byte_c g cv zs _ d1).mono ?_
      rintro e w2 ⟨y, rfl, y0, y1, d2, g2⟩
      go_wp2_with fail
      refine (byte_c g cv zs _ d2).mono ?_
      rintro e w3 ⟨z, rfl, z0, z1, d3, g3⟩
      go_wp2_with fail
      refine (byte_c g cv zs _ d3).mono ?_
      rintro e w4 ⟨u, rfl, u0, u1, d4, g4⟩
      go_wp2
      go_ret
      exact ⟨_, rfl, Int.emod_nonneg _ (by omega), fun _ => Int.emod_lt_of_pos _ (by omega), fun h => by omega, d4, grown_trans (grown_trans (grown_trans g1 g2) g3) g4⟩
set_option maxHeartbeats 1600000 in
set_option maxHeartbeats 1600000 in
theorem new_c (v : Value) (zs : List Int) (w : World) (h : Rd .u8 w v zs) (hok : ∀ z ∈ zs, 0 ≤ z ∧ z ≤ 255) (hlen : zs.length ≤ 1048576) :
   Calls Try.prog 33 #[v] w fun e w' => ∃ g, e = .returned (.pointer (some ⟨g, 0, none⟩)) ∧ Dr w' g v zs ∧ w.heap.size ≤ g ∧ Below w.heap.size w w' := by
  have hR := h
  obtain ⟨a, cap, rfl, h1, h2, h3⟩ := h
  unfold maxLen at h2
  have HR : Hid (Rd .u8 w (.slice a zs.length cap) zs) := hR
  clear hR
  go_enter Try.func33, Try.ntmps33
  go_wp2
  go_loop [3, 4] (fun s i => ∃ (j : Nat) (t : Int), j ≤ zs.length ∧ i = .int .i64 j ∧ s = .int .i64 t) (fun _ i => zs.length - (intOf i).toNat)
  case atStart => exact ⟨0, _, Nat.zero_le _, rfl, rfl⟩
  case round =>
    obtain ⟨j, t, hj, rfl, rfl⟩ := hrel
    have fin : ∀ (t : Int), Dr (w.alloc (.cells #[.slice a zs.length cap, .int .i64 0, .int .i64 t] 79)) w.heap.size (.slice a zs.length cap) zs := by
      intro t
      refine ⟨⟨0, t, Blk.new _ _ _, by omega, by omega⟩, HR.out.below ((Below.refl _ _).alloc (Nat.le_refl _) _), ?_, hok, hlen⟩
      rcases h3 with h3 | ⟨b, off, rfl, h4⟩
      · exact .inl h3
      · by_cases h0 : zs = []
        · exact .inl h0
        · have hp : 0 < zs.length := by cases zs with | nil => exact absurd rfl h0 | cons _ _ => simp
          have hb : b < w.heap.size := block_lt_of_cell (h4 0 hp)
          right; right; simp [Value.ownBlock]; omega
    have FIN : Hid _ := fin
    clear fin
    by_cases hlt : j < zs.length
    · by_cases h4k : j < 4000
      · rcases h3 with h3 | ⟨b, off, rfl, h4⟩
        · subst h3; simp at hlt
        have hc := h4 j hlt
        have hi : (0 : Int) ≤ (j : Int) := by omega
        have hi2 : (j : Int) < (zs.length : Int) := by omega
        have d1 : decide ((j : Int) < (zs.length : Int)) = true := by simp; omega
        have d2 : decide ((j : Int) < 4000) = true := by simp; omega
        clear h4 hok
        go_wp2
        go_round
        case rel => exact ⟨j + 1, _, by omega, by go_num, rfl⟩
        case measure => simp [intOf]; omega
      · have d1 : decide ((j : Int) < (zs.length : Int)) = true := by simp; omega
        have d2 : decide ((j : Int) < 4000) = false := by simp; omega
        clear h3 hok
        go_wp2
        go_ret
        exact ⟨_, rfl, FIN.out t, Nat.le_refl _, (Below.refl _ _).alloc (Nat.le_refl _) _⟩
    · have d1 : decide ((j : Int) < (zs.length : Int)) = false := by simp; omega
      clear h3 hok
      go_wp2
      go_ret
      exact ⟨_, rfl, FIN.out t, Nat.le_refl _, (Below.refl _ _).alloc (Nat.le_refl _) _⟩
set_option maxHeartbeats 1600000 in
theorem size_c (v : Value) (zs : List Int) (m : Int) (w : World) (h : Rd .u8 w v zs) (h0 : 2 ≤ m) (hm : m ≤ 1099511627776) :
   Calls Try.prog 36 #[v, .int .i64 m] w fun e w' => ∃ x : Int, e = .returned (.int .i64 x) ∧ 2 ≤ x ∧ x ≤ m ∧ w' = w := by
  obtain ⟨a, cap, rfl, h1, h2, h3⟩ := h
  unfold maxLen at h2
  clear h3
  have hq : (0 : Int) ≤ (zs.length : Int) := by omega
  by_cases hc : m < 2 + (zs.length : Int) / 20
  · go_enter Try.func36, Try.ntmps36
    go_wp2
    go_ret
    exact ⟨_, rfl, by omega, by omega, rfl⟩
  · go_enter Try.func36, Try.ntmps36
    go_wp2
    go_ret
    exact ⟨_, rfl, by omega, by omega, rfl⟩
end Go.Proofs.Ytljejjfhlpjlfaa
namespace Go.Proofs.Ytljejjfhlpjlfaa
open Go.RowKit Go.ChangeShapes Go.WideShapes Go.ChangeAt
set_option linter.unusedVariables false
set_option linter.unusedSimpArgs false
theorem Ow.low {k : IntKind} {e : TypeId} {base : Nat} {w : World} {v : Value} {zs : List Int} (h : Ow k e base w v zs) (g : Nat) (hg : g < base) : v.ownBlock = none ∨ v.ownBlock ≠ some g := by
  cases hv : v.ownBlock with
  | none => exact .inl rfl
  | some j => refine .inr fun e => ?_; have := (World.ownsRow.lt h j hv).1; simp at e; omega
theorem grown_then_below {w w1 w2 : World} {row : Option Nat} (h : w.grownBy w1 row) (hb : Below w.heap.size w1 w2) : w.grownBy w2 row :=
  ⟨hb.os.trans h.os, hb.tape.trans h.tape, hb.output.trans h.output, Nat.le_trans h.size hb.size, fun k hk hne => (hb.block k hk).trans (h.block k hk hne)⟩
/-- a cursor, behind something that turned nothing below B -/
theorem Dr.onto {w w1 w2 : World} {g : Nat} {cv : Value} {zs : List Int} (h : Dr w g cv zs) (h1 : Dr w1 g cv zs) (hg : w.grownBy w1 (some g)) (hb : Below w.heap.size w1 w2) : Dr w2 g cv zs ∧ w.grownBy w2 (some g) := by
  have hg2 := grown_then_below hg hb
  obtain ⟨i, hh, k, e1, e2⟩ := h1.cur
  exact ⟨h.of hg2 ⟨i, hh, k.below hb h.lt, e1, e2⟩, hg2⟩
set_option maxHeartbeats 1600000 in
theorem pickInt_c (g : Nat) (cv : Value) (zs : List Int) (v : Value) (ys : List Int) (w : World) (h : Dr w g cv zs) (hv : Rd .i64 w v ys) (hap : v.ownBlock = none ∨ v.ownBlock ≠ some g) (hl : 0 < ys.length) (hl2 : ys.length ≤ 1048576) :
   Calls Try.prog 56 #[.pointer (some ⟨g, 0, none⟩), v] w fun e w' => ∃ x : Int, e = .returned (.int .i64 x) ∧ Dr w' g cv zs ∧ w.grownBy w' (some g) := by
  have hv' := hv
  obtain ⟨a, cap, rfl, h1, h2, h3⟩ := hv
  unfold maxLen at h2
  go_enter Try.func56, Try.ntmps56
  go_wp2_with fail
  refine (below_c g cv zs _ _ h (by omega)).mono ?_
  rintro e w1 ⟨x, rfl, x0, x1, x2, d1, g1⟩
  have x1' := x1 (by omega)
  obtain ⟨xn, rfl⟩ := Int.eq_ofNat_of_zero_le x0
  obtain ⟨a', cap', he, _, _, h3'⟩ := hv'.grown g1 hap
  simp only [Value.slice.injEq] at he
  obtain ⟨rfl, _, rfl⟩ := he
  rcases h3' with h3' | ⟨b, off, rfl, h4⟩
  · subst h3'; simp at hl
  have hc := h4 xn (by omega)
  clear h3 h4 x1 x2 hv'
  go_wp2
  go_ret
  exact ⟨_, rfl, d1, g1⟩
end Go.Proofs.Ytljejjfhlpjlfaa
namespace Go.Proofs.Ytljejjfhlpjlfaa
open Go.RowKit Go.ChangeShapes Go.WideShapes Go.ChangeAt
set_option linter.unusedVariables false
set_option linter.unusedSimpArgs false
set_option maxHeartbeats 1600000 in
theorem at_c (v : Value) (zs : List Int) (i : Nat) (w : World) (h : Rd .u8 w v zs) (hok : ∀ z ∈ zs, 0 ≤ z ∧ z ≤ 255) (hi : i ≤ 100000) (hlen : zs.length ≤ 1048576) :
   Calls Try.prog 20 #[v, .int .i64 i] w fun e w' => ∃ x : Int, e = .returned (.int .i64 x) ∧ 0 ≤ x ∧ x ≤ 255 ∧ w' = w := by
  obtain ⟨a, cap, rfl, h1, h2, h3⟩ := h
  unfold maxLen at h2
  by_cases hlt : i < zs.length
  · rcases h3 with h3 | ⟨b, off, rfl, h4⟩
    · subst h3; simp at hlt
    have hc := h4 i hlt
    have hb := hok _ (List.getElem_mem hlt)
    have hltI : (i : Int) < (zs.length : Int) := by omega
    clear h4 hok
    go_enter Try.func20, Try.ntmps20
    go_wp2
    go_ret
    exact ⟨_, rfl, hb.1, hb.2, rfl⟩
  · clear h3 hok
    go_enter Try.func20, Try.ntmps20
    go_wp2
    go_ret
    exact ⟨_, rfl, by omega, by omega, rfl⟩
end Go.Proofs.Ytljejjfhlpjlfaa
namespace Go.Proofs.Ytljejjfhlpjlfaa
open Go.RowKit Go.ChangeShapes Go.WideShapes Go.ChangeAt
set_option linter.unusedVariables false
set_option linter.unusedSimpArgs false
set_option maxRecDepth 8000

abbrev St := Nat × Int
def hx (h : Int) : Int := wrap64 (wrap64 (h * 6364136223846793005) + 1442695040888963407)
def bx (h : Int) : Int := bits .and .i64 (bits .xor .i64 (hx h / 8589934592) (hx h / 35184372088832)) 255
def byteF (zs : List Int) (s : St) : Int × St := if s.1 < zs.length then (bits .and .i64 (wrap64 (bx s.2 + wrap64 (zs.getD s.1 0))) 255, (s.1 + 1, hx s.2)) else (bx s.2, (s.1, hx s.2))
/-- a cursor that stands at s -/
structure Dx (w : World) (g : Nat) (cv : Value) (zs : List Int) (s : St) : Prop where
  cur : Blk w g #[cv, .int .i64 (s.1 : Int), .int .i64 s.2] 79
  hi : s.1 ≤ zs.length
  rd : Rd .u8 w cv zs
  ap : zs = [] ∨ cv.ownBlock = none ∨ cv.ownBlock ≠ some g
  ok : ∀ z ∈ zs, 0 ≤ z ∧ z ≤ 255
  len : zs.length ≤ 1048576
theorem Dx.lt {w : World} {g : Nat} {cv : Value} {zs : List Int} {s : St} (h : Dx w g cv zs s) : g < w.heap.size := h.cur.lt
theorem Dx.of {w w' : World} {g : Nat} {cv : Value} {zs : List Int} {s s' : St} (h : Dx w g cv zs s) (hg : w.grownBy w' (some g)) (hc : Blk w' g #[cv, .int .i64 (s'.1 : Int), .int .i64 s'.2] 79) (hs : s'.1 ≤ zs.length) : Dx w' g cv zs s' :=
  ⟨hc, hs, h.rd.grownE hg h.ap, h.ap, h.ok, h.len⟩
theorem Dx.below {w w' : World} {g : Nat} {cv : Value} {zs : List Int} {s : St} (h : Dx w g cv zs s) (hb : Below w.heap.size w w') : Dx w' g cv zs s :=
  ⟨h.cur.below hb h.cur.lt, h.hi, h.rd.below hb, h.ap, h.ok, h.len⟩
def BxR (g : Nat) (cv : Value) (zs : List Int) (r : Int × St) (w : World) (e : Ending) (w' : World) : Prop := e = .returned (.int .i64 r.1) ∧ Dx w' g cv zs r.2 ∧ w.grownBy w' (some g)
theorem byteF_b (zs : List Int) (s : St) : 0 ≤ (byteF zs s).1 ∧ (byteF zs s).1 ≤ 255 := by
  unfold byteF bx; split <;> exact and255 _
set_option maxHeartbeats 1600000 in
theorem byte_x (g : Nat) (cv : Value) (zs : List Int) (s : St) (w : World) (h : Dx w g cv zs s) : Calls Try.prog 57 #[.pointer (some ⟨g, 0, none⟩)] w (BxR g cv zs (byteF zs s) w) := by
  obtain ⟨ii, hh⟩ := s
  have hD := h
  obtain ⟨k0, hi1, hrd, hap, hok, hlen⟩ := h
  obtain ⟨a, cap, rfl, h1, h2, h3⟩ := hrd
  unfold maxLen at h2
  simp only at k0 hi1
  have c0 := k0.cell 0
  have c1 := k0.cell 1
  have c2 := k0.cell 2
  simp at c0 c1 c2
  have f1 := k0.frozen 1
  have f2 := k0.frozen 2
  have HD : Hid (Dx w g (.slice a zs.length cap) zs (ii, hh)) := hD
  clear hD hok
  by_cases hlt : ii < zs.length
  · rcases h3 with h3 | ⟨b, off, rfl, h4⟩
    · subst h3; simp at hlt
    obtain ⟨z, hz⟩ : ∃ z, zs.getD ii 0 = z := ⟨_, rfl⟩
    have hc := h4 ii hlt
    rw [hz] at hc
    have hne : b ≠ g := by
      rcases hap with hap | hap
      · subst hap; simp at hlt
      · simpa [Value.ownBlock] using hap
    have hc' : ∀ x, (w.setCell ⟨g, 2, none⟩ x).cell? ⟨b, off + ii, none⟩ = some (.int .u8 z) := by
      intro x; rw [World.cell?_setCell_other _ _ _ _ (by intro e; injection e with e1; exact hne e1.symm)]; exact hc
    have hltI : (ii : Int) < (zs.length : Int) := by omega
    have HF : Hid (byteF zs (ii, hh) = (bits .and .i64 (wrap64 (bx hh + wrap64 z)) 255, (ii + 1, hx hh))) := by show byteF zs (ii, hh) = _; unfold byteF; rw [if_pos hlt]; simp only [hz]
    have hg : ∀ n, w.grownBy (((w.setCell ⟨g, 2, none⟩ (Value.int IntKind.i64 (hx hh))).drewN n).setCell ⟨g, 1, none⟩ (.int .i64 ((ii : Int) + 1))) (some g) := fun n => grown_trans (grown_drewN (dgrown_set _ _ _ _) n) (dgrown_set _ _ _ _)
    have HK : Hid (∀ n, Dx (((w.setCell ⟨g, 2, none⟩ (Value.int IntKind.i64 (hx hh))).drewN n).setCell ⟨g, 1, none⟩ (.int .i64 ((ii : Int) + 1))) g (.slice (some ⟨b, off, none⟩) zs.length cap) zs (ii + 1, hx hh) ∧ w.grownBy (((w.setCell ⟨g, 2, none⟩ (Value.int IntKind.i64 (hx hh))).drewN n).setCell ⟨g, 1, none⟩ (.int .i64 ((ii : Int) + 1))) (some g)) := fun n => ⟨HD.out.of (hg n) (by simpa using (((k0.set 2 (.int .i64 (hx hh))).drewN n).set 1 (.int .i64 ((ii : Int) + 1)))) (by simp only; omega), hg n⟩
    clear h4 hc hz hg
    go_enter Try.func57, Try.ntmps57
    go_wp2
    go_quiet (fail)
    go_wp2
    go_quiet (fail)
    go_wp2
    go_quiet (fail)
    go_wp2
    go_ret
    rw [BxR, HF.out]
    exact ⟨rfl, HK.out _⟩
  · have hltI : ¬ (ii : Int) < (zs.length : Int) := by omega
    have hd : decide ((ii : Int) < (zs.length : Int)) = false := by simp; omega
    have HF : Hid (byteF zs (ii, hh) = (bx hh, (ii, hx hh))) := by show byteF zs (ii, hh) = _; unfold byteF; rw [if_neg hlt]
    have hg : ∀ n n', w.grownBy (((w.setCell ⟨g, 2, none⟩ (Value.int IntKind.i64 (hx hh))).drewN n).drewN n') (some g) := fun n n' => grown_drewN (grown_drewN (dgrown_set _ _ _ _) n) n'
    have HK : Hid (∀ n n', Dx (((w.setCell ⟨g, 2, none⟩ (Value.int IntKind.i64 (hx hh))).drewN n).drewN n') g (.slice a zs.length cap) zs (ii, hx hh) ∧ w.grownBy (((w.setCell ⟨g, 2, none⟩ (Value.int IntKind.i64 (hx hh))).drewN n).drewN n') (some g)) := fun n n' => ⟨HD.out.of (hg n n') (by simpa using (((k0.set 2 (.int .i64 (hx hh))).drewN n).drewN n')) (by simp only; omega), hg n n'⟩
    clear h3 hg
    go_enter Try.func57, Try.ntmps57
    go_wp2
    go_quiet (fail)
    go_wp2
    go_quiet (fail)
    go_wp2
    go_ret
    rw [BxR, HF.out]
    first | exact ⟨rfl, HK.out _ _⟩ | (have := HK.out _ 0; exact ⟨rfl, by simpa using this⟩)
/-- a number below n, 0 < n ≤ 256 -/
def belowF (zs : List Int) (s : St) (n : Int) : Int × St := ((byteF zs s).1 % n, (byteF zs s).2)
theorem below_x (g : Nat) (cv : Value) (zs : List Int) (s : St) (n : Int) (w : World) (h : Dx w g cv zs s) (hn0 : 0 < n) (hn : n ≤ 256) :
    Calls Try.prog 35 #[.pointer (some ⟨g, 0, none⟩), .int .i64 n] w (BxR g cv zs (belowF zs s n) w) := by
  have h0' : ¬ n ≤ 0 := by omega
  have HB : Hid (0 ≤ (byteF zs s).1 ∧ (byteF zs s).1 ≤ 255) := byteF_b zs s
  go_enter Try.func35, Try.ntmps35
  go_wp2_with fail
  refine (byte_x g cv zs s _ h).mono ?_
  rintro e w1 ⟨rfl, d1, g1⟩
  have HE : Hid (Dx w1 g cv zs (byteF zs s).2 ∧ w.grownBy w1 (some g)) := ⟨d1, g1⟩
  obtain ⟨x, hx'⟩ : ∃ x, (byteF zs s).1 = x := ⟨_, rfl⟩
  have HX : Hid ((byteF zs s).1 = x) := hx'
  obtain ⟨x0, x1⟩ := HB.out
  rw [hx'] at x0 x1 ⊢
  clear hx' d1 g1
  go_wp2
  go_ret
  rw [BxR, belowF, HX.out]
  exact ⟨rfl, HE.out⟩
def pickF (zs : List Int) (s : St) (ys : List Int) : Int × St := (ys.getD (belowF zs s ys.length).1.toNat 0, (belowF zs s ys.length).2)
set_option maxHeartbeats 1600000 in
theorem pick_x (g : Nat) (cv : Value) (zs : List Int) (s : St) (v : Value) (ys : List Int) (w : World) (h : Dx w g cv zs s) (hv : Rd .i64 w v ys) (hap : v.ownBlock = none ∨ v.ownBlock ≠ some g) (hl : 0 < ys.length) (hl2 : ys.length ≤ 256) :
   Calls Try.prog 56 #[.pointer (some ⟨g, 0, none⟩), v] w (BxR g cv zs (pickF zs s ys) w) := by
  have hv' := hv
  obtain ⟨a, cap, rfl, h1, h2, h3⟩ := hv
  unfold maxLen at h2
  go_enter Try.func56, Try.ntmps56
  go_wp2_with fail
  refine (below_x g cv zs s _ _ h (by omega) (by omega)).mono ?_
  rintro e w1 ⟨rfl, d1, g1⟩
  have HE : Hid (Dx w1 g cv zs (belowF zs s ys.length).2 ∧ w.grownBy w1 (some g)) := ⟨d1, g1⟩
  have x0 : 0 ≤ (belowF zs s ys.length).1 := Int.emod_nonneg _ (by omega)
  have x1 : (belowF zs s ys.length).1 < ys.length := Int.emod_lt_of_pos _ (by omega)
  obtain ⟨x, hx'⟩ : ∃ x, (belowF zs s ys.length).1 = x := ⟨_, rfl⟩
  have HX : Hid ((belowF zs s ys.length).1 = x) := hx'
  rw [hx'] at x0 x1 ⊢
  obtain ⟨xn, rfl⟩ := Int.eq_ofNat_of_zero_le x0
  obtain ⟨a', cap', he, _, _, h3'⟩ := hv'.grown g1 hap
  simp only [Value.slice.injEq] at he
  obtain ⟨rfl, _, rfl⟩ := he
  rcases h3' with h3' | ⟨b, off, rfl, h4⟩
  · subst h3'; simp at hl
  obtain ⟨q, hq⟩ : ∃ q, ys.getD xn 0 = q := ⟨_, rfl⟩
  have hc := h4 xn (by omega)
  rw [hq] at hc
  have HQ : Hid (ys.getD xn 0 = q) := hq
  clear h3 h4 hv' hx' d1 g1 hq
  go_wp2
  go_ret
  rw [BxR, pickF, HX.out, Int.toNat_natCast, HQ.out]
  exact ⟨rfl, HE.out⟩
end Go.Proofs.Ytljejjfhlpjlfaa
