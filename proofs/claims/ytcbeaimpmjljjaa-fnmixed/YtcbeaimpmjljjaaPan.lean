/- Slices whose elements have two cells (legs, calls): what it is that they read, that they are owned; contracts of the laws' helpers that copy and compare legs; no condition. -/
import Derived.Test.YtcbeaimpmjljjaaSl
import Derived.Test.YtcbeaimpmjljjaaReg
namespace Go.Proofs.Ytcbeaimpmjljjaa
open Go.RowKit Go.ChangeShapes Go.WideShapes Go.ChangeAt
set_option linter.unusedVariables false
set_option linter.unusedSimpArgs false
/-- the cells of elements that have two -/
def pr {α : Type} (f g : α → Value) : List α → List Value
  | [] => []
  | x :: r => f x :: g x :: pr f g r
theorem pr_len {α : Type} (f g : α → Value) : ∀ ls : List α, (pr f g ls).length = ls.length * 2
  | [] => rfl
  | x :: r => by simp [pr, pr_len f g r]; omega
theorem pr_append {α : Type} (f g : α → Value) : ∀ a b : List α, pr f g (a ++ b) = pr f g a ++ pr f g b
  | [], b => rfl
  | x :: r, b => by simp [pr, pr_append f g r b]
theorem pr_at {α : Type} (f g : α → Value) : ∀ (ls : List α) (i : Nat) (h : i < ls.length), (pr f g ls)[i * 2]? = some (f ls[i]) ∧ (pr f g ls)[i * 2 + 1]? = some (g ls[i])
  | x :: r, 0, _ => by simp [pr]
  | x :: r, i + 1, h => by
    have := pr_at f g r i (by simpa using h)
    rw [show (i + 1) * 2 = i * 2 + 2 by omega]
    simpa [pr] using this
theorem pr_set {α : Type} (f g : α → Value) : ∀ (ls : List α) (i : Nat) (x : α), i < ls.length → ((pr f g ls).set (i * 2) (f x)).set (i * 2 + 1) (g x) = pr f g (ls.set i x)
  | y :: r, 0, x, _ => by simp [pr]
  | y :: r, i + 1, x, h => by
    have := pr_set f g r i x (by simpa using h)
    rw [show (i + 1) * 2 = i * 2 + 2 by omega]
    simpa [pr] using this
theorem pr_replicate {α : Type} (f g : α → Value) (x : α) : ∀ n : Nat, (madeCells #[f x, g x] (n * 2)).toList = pr f g (List.replicate n x) := by
  intro n
  apply List.ext_getElem?
  intro i
  have hd : i = i / 2 * 2 ∨ i = i / 2 * 2 + 1 := by omega
  by_cases hi : i < n * 2
  · have hq : i / 2 < (List.replicate n x).length := by simp; omega
    have h1 := pr_at f g (List.replicate n x) (i / 2) hq
    rcases hd with hd | hd
    · have hm : i % 2 = 0 := by omega
      rw [← hd] at h1
      rw [h1.1]
      simp [madeCells, List.getElem?_range hi, hm]
    · have hm : i % 2 = 1 := by omega
      rw [← hd] at h1
      rw [h1.2]
      simp [madeCells, List.getElem?_range hi, hm]
  · rw [List.getElem?_eq_none (by simp [madeCells]; omega), List.getElem?_eq_none (by simp [pr_len]; omega)]
/-- the slice v reads as the elements ls, of two cells each -/
def Rp {α : Type} (f g : α → Value) (w : World) (v : Value) (ls : List α) : Prop :=
  ∃ a cap, v = .slice a ls.length cap ∧ ls.length ≤ cap ∧ cap ≤ maxLen ∧ (ls = [] ∨ ∃ b off, a = some ⟨b, off, none⟩ ∧ ∀ i (h : i < ls.length), w.cell? ⟨b, off + i * 2, none⟩ = some (f ls[i]) ∧ w.cell? ⟨b, off + i * 2 + 1, none⟩ = some (g ls[i]))
/-- the slice v, among the blocks from base on, owns the elements ls -/
def Op {α : Type} (f g : α → Value) (e : TypeId) (base : Nat) (w : World) (v : Value) (ls : List α) : Prop := w.ownsRow base e 2 v ls.length (pr f g ls)
section
variable {α : Type} {f g : α → Value}
theorem Rp.grown {w w' : World} {v : Value} {ls : List α} {row : Option Nat} (h : Rp f g w v ls) (hg : w.grownBy w' row) (hne : ls = [] ∨ v.ownBlock = none ∨ v.ownBlock ≠ row) : Rp f g w' v ls := by
  obtain ⟨a, cap, rfl, h1, h2, h3⟩ := h
  refine ⟨a, cap, rfl, h1, h2, ?_⟩
  rcases h3 with h3 | ⟨b, off, rfl, h4⟩
  · exact .inl h3
  · rcases hne with hne | hne
    · exact .inl hne
    refine .inr ⟨b, off, rfl, fun i hi => ?_⟩
    have hc := h4 i hi
    have hlt : b < w.heap.size := block_lt_of_cell hc.1
    have hbk := hg.block b hlt (by simpa [Value.ownBlock] using hne)
    exact ⟨(World.cell?_of_block (w := w) hbk).trans hc.1, (World.cell?_of_block (w := w) hbk).trans hc.2⟩
theorem Rp.below {w w' : World} {v : Value} {ls : List α} (h : Rp f g w v ls) (hb : Below w.heap.size w w') : Rp f g w' v ls :=
  h.grown (row := none) ⟨hb.os, hb.tape, hb.output, hb.size, fun j hj _ => hb.block j hj⟩ (by cases v.ownBlock <;> simp)
theorem Op.below {e : TypeId} {base : Nat} {w w' : World} {v : Value} {ls : List α} (h : Op f g e base w v ls) (hb : Below w.heap.size w w') : Op f g e base w' v ls :=
  World.ownsRow.kept (row := none) h ⟨hb.os, hb.tape, hb.output, hb.size, fun j hj _ => hb.block j hj⟩ (by cases v.ownBlock <;> simp)
theorem Op.rd {e : TypeId} {base : Nat} {w : World} {v : Value} {ls : List α} (h : Op f g e base w v ls) : Rp f g w v ls := by
  rcases h.2 with ⟨rfl, hn⟩ | ⟨b, cap, cur, rfl, hb, hg, hnc, hcm, hcs, ht⟩
  · exact ⟨none, 0, by rw [hn], by omega, by simp, .inl (List.eq_nil_of_length_eq_zero hn)⟩
  · refine ⟨_, cap, rfl, hnc, hcm, .inr ⟨b, 0, rfl, fun i hi => ?_⟩⟩
    have h0 := World.ownsRow.cellAt h (i * 2) (by omega)
    have h1 := World.ownsRow.cellAt h (i * 2 + 1) (by omega)
    have hp := pr_at f g ls i hi
    rw [Nat.zero_add, h0, h1]; exact hp
theorem Op.mono {e : TypeId} {base base' : Nat} {w : World} {v : Value} {ls : List α} (h : Op f g e base w v ls) (hb : base' ≤ base) : Op f g e base' w v ls := by
  refine ⟨h.1, ?_⟩
  rcases h.2 with h2 | ⟨b, cap, cur, hv, hg, r⟩
  · exact .inl h2
  · exact .inr ⟨b, cap, cur, hv, by omega, r⟩
end
/-- the first j of ls, x behind -/
def fil {α : Type} (x : α) (ls : List α) (j : Nat) : List α := ls.take j ++ List.replicate (ls.length - j) x
theorem fil_len {α : Type} (x : α) (ls : List α) (j : Nat) (h : j ≤ ls.length) : (fil x ls j).length = ls.length := by simp [fil]; omega
theorem fil_full {α : Type} (x : α) (ls : List α) : fil x ls ls.length = ls := by simp [fil]
theorem fil_set {α : Type} (x : α) (ls : List α) (j : Nat) (h : j < ls.length) : (fil x ls j).set j ls[j] = fil x ls (j + 1) := by
  have e : List.replicate (ls.length - j) x = x :: List.replicate (ls.length - (j + 1)) x := by
    rw [show ls.length - j = (ls.length - (j + 1)) + 1 by omega, List.replicate_succ]
  have t : ls.take (j + 1) = ls.take j ++ [ls[j]] := by rw [List.take_succ_eq_append_getElem h]
  have hm : min j ls.length = j := by omega
  rw [fil, fil, e]
  simp [List.set_append, hm]
  rw [t, List.append_assoc]; rfl
/-- a leg: its line, whether it is held -/
abbrev lf : Int × Bool → Value := fun x => .int .i64 x.1
abbrev lg : Int × Bool → Value := fun x => .bool x.2
theorem size45 : (Try.prog.info? 42).map (·.size) = some 2 := by kernel_rfl
theorem size62 : (Try.prog.info? 169).map (·.size) = some 2 := by kernel_rfl
theorem toLeg_c (l : Int) (h : Bool) (w : World) : Calls Try.prog 121 #[.agg #[.int .i64 l, .bool h]] w fun e w' => e = .returned (.agg #[.int .i64 l, .bool h]) ∧ Below w.heap.size w w' := by
  go_enter Try.func121, Try.ntmps121
  go_wp2
  have h1 : ((((w.alloc (Obj.cells #[Value.int IntKind.i64 l, Value.bool h] 169)).alloc (Obj.cells #[Value.int IntKind.i64 l, Value.bool h] 42)).alloc (Obj.cells #[Value.int IntKind.i64 l, Value.bool h] 42))).heap[w.heap.size + 1]? = some (.cells #[Value.int IntKind.i64 l, Value.bool h] 42 (0, 0)) :=
    ((Blk.newAt _ (w.heap.size + 1) _ 42 (by simp)).alloc _ : Blk _ _ _ _)
  exact bodyPost_ret (v := .agg #[.int .i64 l, .bool h]) (results_cell_row rfl _ _ _ 42 _ (0, 0) _ rfl h1 Try.underlying42 rfl size45) rfl ⟨rfl, (((Below.refl _ _).alloc (Nat.le_refl _) _).alloc (by simp) _).alloc (by simp; omega) _⟩
theorem eqLeg_c (l l' : Int) (h h' : Bool) (w : World) : Calls Try.prog 122 #[.agg #[.int .i64 l, .bool h], .agg #[.int .i64 l', .bool h']] w fun e w' => e = .returned (.bool (decide ((l, h) = (l', h')))) ∧ Below w.heap.size w w' := by
  have hb : Below w.heap.size w ((w.alloc (Obj.cells #[Value.int IntKind.i64 l, Value.bool h] 42)).alloc (Obj.cells #[Value.int IntKind.i64 l', Value.bool h'] 42)) := ((Below.refl _ _).alloc (Nat.le_refl _) _).alloc (by simp) _
  have HB : Hid _ := hb
  clear hb
  go_enter Try.func122, Try.ntmps122
  go_wp2
  all_goals
    go_ret
    refine ⟨?_, HB.out⟩
    simp_all
theorem infoLeg : (Try.prog.info? 42).map (fun i => (i.zero, i.size, i.bytes)) = some (some (.agg #[.int .i64 0, .bool false]), 2, 16) := by kernel_rfl
theorem own_set2 {α : Type} {f g : α → Value} {e : TypeId} {base b cap : Nat} {w : World} {ls : List α} (h : Op f g e base w (.slice (some ⟨b, 0, none⟩) ls.length cap) ls) (j : Nat) (hj : j < ls.length) (x : α) :
    Op f g e base ((w.setCell ⟨b, j * 2, none⟩ (f x)).setCell ⟨b, j * 2 + 1, none⟩ (g x)) (.slice (some ⟨b, 0, none⟩) ls.length cap) (ls.set j x) := by
  have h1 := (World.ownsRow.stored h (j * 2) (f x)).1
  have h2 := (World.ownsRow.stored h1 (j * 2 + 1) (g x)).1
  rw [pr_set f g ls j x hj] at h2
  rw [Op, List.length_set]; exact h2
set_option maxHeartbeats 1600000 in
theorem toLegS_c (v : Value) (ls : List (Int × Bool)) (w : World) (h : Rp lf lg w v ls) (hn : ls.length ≤ 1048576) :
   Calls Try.prog 111 #[v] w fun e w' => ∃ v', e = .returned v' ∧ Op lf lg 42 w.heap.size w' v' ls ∧ Below w.heap.size w w' := by
  obtain ⟨a, cap, rfl, h1, h2, h3⟩ := h
  unfold maxLen at h2
  obtain ⟨i0, hi, hz0, hz1, hz2⟩ := info_parts infoLeg
  go_enter Try.func111, Try.ntmps111
  go_wp2_with (at_make; refine wpList_make_full _ rfl _ _ 43 rfl w.heap.size 42 i0 (.agg #[.int .i64 0, .bool false]) 2 Try.underlying43 hi hz0 hz1 .i64 .i64 _ _ ls.length rfl rfl rfl rfl (by rw [hz2]; omega) (by unfold maxLen; omega) (Nat.le_refl _) ?_)
  intro w1 ho hg
  have hx : w1.ownsRow w.heap.size 42 2 (.slice (some ⟨w.heap.size, 0, none⟩) ls.length ls.length) ls.length (pr lf lg (fil (0, false) ls 0)) := by
    have e : pr lf lg (fil (0, false) ls 0) = (madeCells #[Value.int .i64 0, .bool false] (ls.length * 2)).toList := by rw [pr_replicate lf lg (0, false) ls.length]; simp [fil]
    rw [e]; exact ho
  have hb : Below w.heap.size w w1 := grown_below hg (Nat.le_refl _) (by simp)
  clear hg ho
  go_wp2
  go_loopw [4] (fun i wr => ∃ j : Nat, j ≤ ls.length ∧ i = .int .i64 j ∧ wr.ownsRow w.heap.size 42 2 (.slice (some ⟨w.heap.size, 0, none⟩) ls.length ls.length) ls.length (pr lf lg (fil (0, false) ls j)) ∧ Below w.heap.size w wr) (fun i _ => ls.length - (intOf i).toNat)
  case atStart => exact ⟨0, Nat.zero_le _, rfl, hx, hb⟩
  case round =>
    obtain ⟨j, hj, rfl, hw, hbr⟩ := hrel
    clear hx hb
    by_cases hlt : j < ls.length
    · rcases h3 with h3 | ⟨b, off, rfl, h4⟩
      · subst h3; simp at hlt
      have hc := h4 j hlt
      have hcb : b < w.heap.size := block_lt_of_cell hc.1
      have hc0 : wr.cell? ⟨b, off + j * 2, none⟩ = some (.int .i64 ls[j].1) := by rw [hbr.cell hcb]; exact hc.1
      have hc1 : wr.cell? ⟨b, off + j * 2 + 1, none⟩ = some (.bool ls[j].2) := by rw [hbr.cell hcb]; exact hc.2
      clear h4 hc
      go_wp2_with (fail)
      refine (toLeg_c _ _ _).mono ?_
      rintro e w2 ⟨rfl, b2⟩
      have hw2 : w2.ownsRow w.heap.size 42 2 (.slice (some ⟨w.heap.size, 0, none⟩) ls.length ls.length) ls.length (pr lf lg (fil (0, false) ls j)) := World.ownsRow.kept (row := none) hw ⟨b2.os, b2.tape, b2.output, b2.size, fun i hi _ => b2.block i hi⟩ (by simp [Value.ownBlock])
      have c2 := belowCall hbr b2 hbr.size
      have hfl := fil_len (0, false) ls j hj
      have hO : Op lf lg 42 w.heap.size w2 (.slice (some ⟨w.heap.size, 0, none⟩) (fil (0, false) ls j).length ls.length) (fil (0, false) ls j) := by rw [Op, hfl]; exact hw2
      have hp := pr_at lf lg (fil (0, false) ls j) j (by omega)
      obtain ⟨y0, hd0⟩ : ∃ u, w2.cell? ⟨w.heap.size, j * 2, none⟩ = some u := ⟨_, (hw2.cellAt (j * 2) (by omega)).trans hp.1⟩
      obtain ⟨y1, hd1⟩ : ∃ u, w2.cell? ⟨w.heap.size, j * 2 + 1, none⟩ = some u := ⟨_, (hw2.cellAt (j * 2 + 1) (by omega)).trans hp.2⟩
      have hf0 := hw2.frozenAt (j * 2)
      have hf1 := hw2.frozenAt (j * 2 + 1)
      have hS := own_set2 hO j (by omega) ls[j]
      rw [fil_set, Op, hfl, fil_len _ _ _ (by omega)] at hS
      have c3 : Below w.heap.size w ((w2.setCell ⟨w.heap.size, j * 2, none⟩ (lf ls[j])).setCell ⟨w.heap.size, j * 2 + 1, none⟩ (lg ls[j])) := (c2.setCell (by exact Nat.le_refl _) _).setCell (by exact Nat.le_refl _) _
      have HS : Hid _ := hS
      have HC : Hid _ := c3
      clear hw hbr hw2 c2 b2 hO hS c3 hp hfl
      go_wp2
      go_roundw
      case rel => exact ⟨j + 1, by omega, by go_num, HS.out, HC.out⟩
      case measure => simp [intOf]; omega
    · obtain rfl : j = ls.length := by omega
      rw [fil_full] at hw
      clear h3
      go_wp2
      go_ret
      exact ⟨_, rfl, hw, hbr⟩
end Go.Proofs.Ytcbeaimpmjljjaa
