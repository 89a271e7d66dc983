/- Features as pairs: read, owned, copied, compared, marked; no condition; no condition. -/
import Derived.Test.YtfaflnhembceoaaNtA
import Derived.Test.YtfaflnhembceoaaSl
import Derived.Deep.MidRow
namespace Go.Proofs.Ytfaflnhembceoaa
open Go.RowKit Go.ChangeShapes Go.WideShapes Go.ChangeAt
set_option linter.unusedVariables false
set_option linter.unusedSimpArgs false
set_option maxRecDepth 8000
/-- the cells of elements that have two -/
def pr {α : Type} (f g : α → Value) : List α → List Value
  | [] => []
  | x :: r => f x :: g x :: pr f g r
theorem pr_len {α : Type} (f g : α → Value) : ∀ ls : List α, (pr f g ls).length = ls.length * 2
  | [] => rfl
  | x :: r => by simp [pr, pr_len f g r]; omega
theorem pr_append {α : Type} (f g : α → Value) : ∀ a b : List α, pr f g (a ++ b) = pr f g a ++ pr f g b
  | [], b => rfl
  | x :: r, b => by simp [pr, pr_append f g r b]
theorem pr_at {α : Type} (f g : α → Value) : ∀ (ls : List α) (i : Nat) (h : i < ls.length), (pr f g ls)[i * 2]? = some (f ls[i]) ∧ (pr f g ls)[i * 2 + 1]? = some (g ls[i])
  | x :: r, 0, _ => by simp [pr]
  | x :: r, i + 1, h => by
    have := pr_at f g r i (by simpa using h)
    rw [show (i + 1) * 2 = i * 2 + 2 by omega]
    simpa [pr] using this
theorem pr_set {α : Type} (f g : α → Value) : ∀ (ls : List α) (i : Nat) (x : α), i < ls.length → ((pr f g ls).set (i * 2) (f x)).set (i * 2 + 1) (g x) = pr f g (ls.set i x)
  | y :: r, 0, x, _ => by simp [pr]
  | y :: r, i + 1, x, h => by
    have := pr_set f g r i x (by simpa using h)
    rw [show (i + 1) * 2 = i * 2 + 2 by omega]
    simpa [pr] using this
theorem pr_replicate {α : Type} (f g : α → Value) (x : α) : ∀ n : Nat, (madeCells #[f x, g x] (n * 2)).toList = pr f g (List.replicate n x) := by
  intro n
  apply List.ext_getElem?
  intro i
  have hd : i = i / 2 * 2 ∨ i = i / 2 * 2 + 1 := by omega
  by_cases hi : i < n * 2
  · have hq : i / 2 < (List.replicate n x).length := by simp; omega
    have h1 := pr_at f g (List.replicate n x) (i / 2) hq
    rcases hd with hd | hd
    · have hm : i % 2 = 0 := by omega
      rw [← hd] at h1
      rw [h1.1]
      simp [madeCells, List.getElem?_range hi, hm]
    · have hm : i % 2 = 1 := by omega
      rw [← hd] at h1
      rw [h1.2]
      simp [madeCells, List.getElem?_range hi, hm]
  · rw [List.getElem?_eq_none (by simp [madeCells]; omega), List.getElem?_eq_none (by simp [pr_len]; omega)]
/-- the slice v reads as the elements ls, of two cells each -/
def Rp {α : Type} (f g : α → Value) (w : World) (v : Value) (ls : List α) : Prop :=
  ∃ a cap, v = .slice a ls.length cap ∧ ls.length ≤ cap ∧ cap ≤ maxLen ∧ (ls = [] ∨ ∃ b off, a = some ⟨b, off, none⟩ ∧ ∀ i (h : i < ls.length), w.cell? ⟨b, off + i * 2, none⟩ = some (f ls[i]) ∧ w.cell? ⟨b, off + i * 2 + 1, none⟩ = some (g ls[i]))
/-- the slice v, among the blocks from base on, owns the elements ls -/
def Op {α : Type} (f g : α → Value) (e : TypeId) (base : Nat) (w : World) (v : Value) (ls : List α) : Prop := w.ownsRow base e 2 v ls.length (pr f g ls)
section
variable {α : Type} {f g : α → Value}
theorem Rp.grown {w w' : World} {v : Value} {ls : List α} {row : Option Nat} (h : Rp f g w v ls) (hg : w.grownBy w' row) (hne : ls = [] ∨ v.ownBlock = none ∨ v.ownBlock ≠ row) : Rp f g w' v ls := by
  obtain ⟨a, cap, rfl, h1, h2, h3⟩ := h
  refine ⟨a, cap, rfl, h1, h2, ?_⟩
  rcases h3 with h3 | ⟨b, off, rfl, h4⟩
  · exact .inl h3
  · rcases hne with hne | hne
    · exact .inl hne
    refine .inr ⟨b, off, rfl, fun i hi => ?_⟩
    have hc := h4 i hi
    have hlt : b < w.heap.size := block_lt_of_cell hc.1
    have hbk := hg.block b hlt (by simpa [Value.ownBlock] using hne)
    exact ⟨(World.cell?_of_block (w := w) hbk).trans hc.1, (World.cell?_of_block (w := w) hbk).trans hc.2⟩
theorem Rp.below {w w' : World} {v : Value} {ls : List α} (h : Rp f g w v ls) (hb : Below w.heap.size w w') : Rp f g w' v ls :=
  h.grown (row := none) ⟨hb.os, hb.tape, hb.output, hb.size, fun j hj _ => hb.block j hj⟩ (by cases v.ownBlock <;> simp)
theorem Op.below {e : TypeId} {base : Nat} {w w' : World} {v : Value} {ls : List α} (h : Op f g e base w v ls) (hb : Below w.heap.size w w') : Op f g e base w' v ls :=
  World.ownsRow.kept (row := none) h ⟨hb.os, hb.tape, hb.output, hb.size, fun j hj _ => hb.block j hj⟩ (by cases v.ownBlock <;> simp)
theorem Op.rd {e : TypeId} {base : Nat} {w : World} {v : Value} {ls : List α} (h : Op f g e base w v ls) : Rp f g w v ls := by
  rcases h.2 with ⟨rfl, hn⟩ | ⟨b, cap, cur, rfl, hb, hg, hnc, hcm, hcs, ht⟩
  · exact ⟨none, 0, by rw [hn], by omega, by simp, .inl (List.eq_nil_of_length_eq_zero hn)⟩
  · refine ⟨_, cap, rfl, hnc, hcm, .inr ⟨b, 0, rfl, fun i hi => ?_⟩⟩
    have h0 := World.ownsRow.cellAt h (i * 2) (by omega)
    have h1 := World.ownsRow.cellAt h (i * 2 + 1) (by omega)
    have hp := pr_at f g ls i hi
    rw [Nat.zero_add, h0, h1]; exact hp
theorem Op.mono {e : TypeId} {base base' : Nat} {w : World} {v : Value} {ls : List α} (h : Op f g e base w v ls) (hb : base' ≤ base) : Op f g e base' w v ls := by
  refine ⟨h.1, ?_⟩
  rcases h.2 with h2 | ⟨b, cap, cur, hv, hg, r⟩
  · exact .inl h2
  · exact .inr ⟨b, cap, cur, hv, by omega, r⟩
end
abbrev Mvs := List (Int × Int)
abbrev mf : Int × Int → Value := fun x => .int .i64 x.1
abbrev mg : Int × Int → Value := fun x => .int .i64 x.2
theorem infoEv : (Try.prog.info? 37).map (fun i => (i.zero, i.size, i.bytes)) = some (some (.agg #[.int .i64 0, .int .i64 0]), 2, 16) := by kernel_rfl
theorem pr_news {α : Type} {f g : α → Value} {w : World} {b off : Nat} {ls : List α} (h4 : ∀ i (h : i < ls.length), w.cell? ⟨b, off + i * 2, none⟩ = some (f ls[i]) ∧ w.cell? ⟨b, off + i * 2 + 1, none⟩ = some (g ls[i])) :
    ∀ j u, (pr f g ls)[j]? = some u → w.cell? ((⟨b, off, none⟩ : Addr).add j) = some u := by
  intro j u hu
  have hj : j < ls.length * 2 := by have := (List.getElem?_eq_some_iff.1 hu).1; rw [pr_len] at this; exact this
  have hq : j / 2 < ls.length := by omega
  have hp := pr_at f g ls (j / 2) hq
  have hc := h4 (j / 2) hq
  rw [Addr.add_lit]
  rcases (show j = j / 2 * 2 ∨ j = j / 2 * 2 + 1 by omega) with e | e
  · rw [← e] at hp hc; rw [hc.1, ← hp.1]; exact hu
  · rw [← e] at hp; rw [Nat.add_assoc, ← e] at hc; rw [hc.2, ← hp.2]; exact hu
theorem pr_one {ls : List (Int × Int)} : ∀ u ∈ pr mf mg ls, u.oneCell' = true := by
  induction ls with
  | nil => intro u hu; simp [pr] at hu
  | cons x r ih =>
    intro u hu
    simp only [pr, List.mem_cons] at hu
    rcases hu with rfl | rfl | hu
    · rfl
    · rfl
    · exact ih u hu
theorem size35e : (Try.prog.info? 37).map (·.size) = some 2 := by kernel_rfl
theorem eqFeature_c (l l' h h' : Int) (w : World) : Calls Try.prog 100 #[.agg #[.int .i64 l, .int .i64 h], .agg #[.int .i64 l', .int .i64 h']] w fun e w' => e = .returned (.bool (decide ((l, h) = (l', h')))) ∧ Below w.heap.size w w' := by
  have hb : Below w.heap.size w ((w.alloc (Obj.cells #[Value.int IntKind.i64 l, Value.int IntKind.i64 h] 37)).alloc (Obj.cells #[Value.int IntKind.i64 l', Value.int IntKind.i64 h'] 37)) := ((Below.refl _ _).alloc (Nat.le_refl _) _).alloc (by simp) _
  have HB : Hid (Below w.heap.size w ((w.alloc (Obj.cells #[Value.int IntKind.i64 l, Value.int IntKind.i64 h] 37)).alloc (Obj.cells #[Value.int IntKind.i64 l', Value.int IntKind.i64 h'] 37))) := hb
  clear hb
  go_enter Try.func100, Try.ntmps100
  go_wp2
  all_goals
    go_ret
    refine ⟨?_, HB.out⟩
    simp_all
theorem range2 {w : World} {b o : Nat} {x y : Value} (h0 : w.cell? ⟨b, o, none⟩ = some x) (h1 : w.cell? ⟨b, o + 1, none⟩ = some y) : w.rangeAt b o [x, y] := by
  intro i v hv
  rcases i with _ | _ | i
  · simp at hv; subst hv; simpa using h0
  · simp at hv; subst hv; simpa using h1
  · simp at hv
/-- two elements are taken and compared, in whatever order -/
def JE2 (v v' : Value) (j : Nat) (b o b' o' : Nat) (x y : Value) (q : Bool) (U : Value → Value → Value → Value → Value → Value → Value → Value → Value → Value → Act) (S : World → Prop) (d : Nat → Bool) (A : Act) (W : World) : Prop :=
  ∃ u0 u1 u2 u3 u4 u5 u6 u7 u8 u9 : Value, A = U u0 u1 u2 u3 u4 u5 u6 u7 u8 u9 ∧ S W ∧ (d 0 = true → u0 = v) ∧ (d 1 = true → u1 = .int .i64 j) ∧ (d 2 = true → u2 = .pointer (some ⟨b, o, none⟩)) ∧ (d 3 = true → u3 = x) ∧
    (d 4 = true → u4 = v') ∧ (d 5 = true → u5 = .int .i64 j) ∧ (d 6 = true → u6 = .pointer (some ⟨b', o', none⟩)) ∧ (d 7 = true → u7 = y) ∧ (d 8 = true → u8 = .bool q) ∧ (d 9 = true → u9 = .bool !q)
theorem eqEvRowIdx (b off n cap j : Nat) (hj : j < n) (W : World) : (Instr.indexAt 33 (.slice (some ⟨b, off, none⟩) n cap) (.int .i64 (j : Int))).run Try.prog W = .ok (.pointer (some ⟨b, off + j * 2, none⟩)) W := by
  have hs : (sizeOf 37).run Try.prog W = .ok 2 W := by simp [sizeOf, typeInfo, Sem.run_bind]; cases hq : Try.prog.info? 37 with
    | none => have := size35e; rw [hq] at this; cases this
    | some i => have := size35e; rw [hq] at this; simp at this; simp [this]
  have hji : (j : Int) < (n : Int) := by omega
  have hn : ¬ n ≤ j := by omega
  have hadd : (⟨b, off, none⟩ : Addr).add (j * 2) = ⟨b, off + j * 2, none⟩ := by unfold Addr.add; split <;> simp_all
  simp [Instr.indexAt, asIntOf, run_underlying Try.underlying33, hji, hs, hadd, hn]
theorem eqEvRowWp {o : Oper} {a : Act} {w : World} {K : Act → World → Prop} {Q : Exit → Act → World → Prop} (x y : Operand) (ho : o.op = .indexAddr 33 x y) (b off n cap j : Nat) (hx : a.eval x = .slice (some ⟨b, off, none⟩) n cap) (hy : a.eval y = .int .i64 (j : Int)) (hj : j < n)
    (h : K (a.put o.dst (.pointer (some ⟨b, off + j * 2, none⟩))) w) : o.wp Try.prog a w K Q :=
  wp_val _ (by simp only [execOp, ho, hx, hy, Sem.run_bind, eqEvRowIdx b off n cap j hj, Result.andThen_ok, Sem.run_pure]) h
set_option maxHeartbeats 1600000 in
theorem eqEvRow (v v' : Value) (xs ys : List (Value × Value)) (q : Nat → Bool) (w : World) (h : Rp Prod.fst Prod.snd w v xs) (h' : Rp Prod.fst Prod.snd w v' ys)
    (hq : ∀ j (h1 : j < xs.length) (h2 : j < ys.length) W, Below w.heap.size w W → Calls Try.prog 100 #[.agg #[xs[j].1, xs[j].2], .agg #[ys[j].1, ys[j].2]] W fun e w' => e = .returned (.bool (q j)) ∧ Below W.heap.size W w') :
   Calls Try.prog 85 #[v, v'] w fun e w' => ∃ r, e = .returned (.bool r) ∧ (r = true ↔ xs.length = ys.length ∧ ∀ j, j < xs.length → q j = true) ∧ Below w.heap.size w w' := by
  obtain ⟨a, cap, rfl, h1, h2, h3⟩ := h
  obtain ⟨a', cap', rfl, h1', h2', h3'⟩ := h'
  unfold maxLen at h2 h2'
  have HQ : Hid (∀ j (h1 : j < xs.length) (h2 : j < ys.length) W, Below w.heap.size w W → Calls Try.prog 100 #[.agg #[xs[j].1, xs[j].2], .agg #[ys[j].1, ys[j].2]] W fun e w' => e = .returned (.bool (q j)) ∧ Below W.heap.size W w') := hq
  clear hq
  by_cases hne : xs.length = ys.length
  · obtain ⟨n, hnx⟩ : ∃ n, xs.length = n := ⟨_, rfl⟩
    have hny : ys.length = n := by omega
    have HX : Hid (xs.length = n) := hnx
    have HY : Hid (ys.length = n) := hny
    rw [hnx] at h1
    rw [hny] at h1'
    rw [hnx, hny]
    have hneb : ((n : Int) != (n : Int)) = false := by simp
    clear hne hnx hny
    go_enter Try.func85, Try.ntmps85
    go_wp2
    go_loopw [5] (fun i wr => ∃ j : Nat, j ≤ n ∧ i = .int .i64 j ∧ Hid (∀ t, t < j → q t = true) ∧ Below w.heap.size w wr) (fun i _ => n - (intOf i).toNat)
    case atStart => exact ⟨0, Nat.zero_le _, rfl, fun t ht => by omega, Below.refl _ _⟩
    case round =>
      obtain ⟨j, hj, rfl, hall, hbr⟩ := hrel
      by_cases hlt : j < n
      · have hjx : j < xs.length := by have h := HX.out; omega
        have hjy : j < ys.length := by have h := HY.out; omega
        rcases h3 with h3 | ⟨b, off, rfl, h4⟩
        · subst h3; simp at hjx
        rcases h3' with h3' | ⟨b', off', rfl, h4'⟩
        · subst h3'; simp at hjy
        have hr : ∀ W, Below w.heap.size w W → W.rangeAt b (off + j * 2) [xs[j].1, xs[j].2] := fun W hW => range2 ((hW.cell (block_lt_of_cell (h4 j hjx).1)).trans (h4 j hjx).1) ((hW.cell (block_lt_of_cell (h4 j hjx).2)).trans (h4 j hjx).2)
        have hr' : ∀ W, Below w.heap.size w W → W.rangeAt b' (off' + j * 2) [ys[j].1, ys[j].2] := fun W hW => range2 ((hW.cell (block_lt_of_cell (h4' j hjy).1)).trans (h4' j hjy).1) ((hW.cell (block_lt_of_cell (h4' j hjy).2)).trans (h4' j hjy).2)
        have HR : Hid (∀ W, Below w.heap.size w W → W.rangeAt b (off + j * 2) [xs[j].1, xs[j].2]) := hr
        have HR' : Hid (∀ W, Below w.heap.size w W → W.rangeAt b' (off' + j * 2) [ys[j].1, ys[j].2]) := hr'
        have HE : Hid (∀ W, Below w.heap.size w W → Calls Try.prog 100 #[.agg #[xs[j].1, xs[j].2], .agg #[ys[j].1, ys[j].2]] W fun e w' => e = .returned (.bool (q j)) ∧ Below W.heap.size W w') := fun W hW => HQ.out j hjx hjy W hW
        clear h4 h4' hr hr' hneb HQ
        go_wp2
        refine region_inv (by kernel_rfl) (by kernel_rfl) (JE2 (.slice (some ⟨b, off, none⟩) n cap) (.slice (some ⟨b', off', none⟩) n cap') j b (off + j * 2) b' (off' + j * 2) (.agg #[xs[j].1, xs[j].2]) (.agg #[ys[j].1, ys[j].2]) (q j) (fun u0 u1 u2 u3 u4' u5' u6 u7 u8 u9 => ⟨#[.slice (some ⟨b, off, none⟩) n cap, .slice (some ⟨b', off', none⟩) n cap', undef, undef, u4, .int .i64 j, .slice (some ⟨b, off, none⟩) n cap, .int .i64 n, .slice (some ⟨b', off', none⟩) n cap', .int .i64 n, .bool false, .int .i64 j, .slice (some ⟨b, off, none⟩) n cap, .int .i64 n, .bool true, u15, u16, u0, u1, u2, u3, u4', u5', u6, u7, u8, u9], []⟩) (Below w.heap.size w)) ⟨_, _, _, _, _, _, _, _, _, _, rfl, hbr.drew, by simp, by simp, by simp, by simp, by simp, by simp, by simp, by simp, by simp, by simp⟩ ⟨?_, ?_, ?_, ?_, ?_, ?_, ?_, ?_, ?_, ?_, trivial⟩ ?_
        · rintro d A W ⟨x0, x1, x2, x3, x4, x5, x6, x7, x8, x9, rfl, I, e0, e1, e2, e3, e4, e5, e6, e7, e8, e9⟩ hn hd
          exact wp_val _ rfl ⟨_, x1, x2, x3, x4, x5, x6, x7, x8, x9, rfl, I, fun _ => rfl, e1, e2, e3, e4, e5, e6, e7, e8, e9⟩
        · rintro d A W ⟨x0, x1, x2, x3, x4, x5, x6, x7, x8, x9, rfl, I, e0, e1, e2, e3, e4, e5, e6, e7, e8, e9⟩ hn hd
          exact wp_val _ rfl ⟨x0, _, x2, x3, x4, x5, x6, x7, x8, x9, rfl, I, e0, fun _ => rfl, e2, e3, e4, e5, e6, e7, e8, e9⟩
        · rintro d A W ⟨x0, x1, x2, x3, x4, x5, x6, x7, x8, x9, rfl, I, e0, e1, e2, e3, e4, e5, e6, e7, e8, e9⟩ hn hd
          obtain rfl := e0 (hd ⟨0, .data⟩ (by simp))
          obtain rfl := e1 (hd ⟨1, .data⟩ (by simp))
          exact eqEvRowWp _ _ rfl b off n cap j rfl rfl hlt ⟨_, _, _, x3, x4, x5, x6, x7, x8, x9, rfl, I, e0, e1, fun _ => rfl, e3, e4, e5, e6, e7, e8, e9⟩
        · rintro d A W ⟨x0, x1, x2, x3, x4, x5, x6, x7, x8, x9, rfl, I, e0, e1, e2, e3, e4, e5, e6, e7, e8, e9⟩ hn hd
          obtain rfl := e2 (hd ⟨2, .data⟩ (by simp))
          exact wp_load_mid 37 _ rfl b (off + j * 2) rfl [xs[j].1, xs[j].2] _ (HR.out W I) Try.underlying37 rfl size35e ⟨x0, x1, _, _, x4, x5, x6, x7, x8, x9, rfl, I, e0, e1, e2, fun _ => rfl, e4, e5, e6, e7, e8, e9⟩
        · rintro d A W ⟨x0, x1, x2, x3, x4, x5, x6, x7, x8, x9, rfl, I, e0, e1, e2, e3, e4, e5, e6, e7, e8, e9⟩ hn hd
          exact wp_val _ rfl ⟨x0, x1, x2, x3, _, x5, x6, x7, x8, x9, rfl, I, e0, e1, e2, e3, fun _ => rfl, e5, e6, e7, e8, e9⟩
        · rintro d A W ⟨x0, x1, x2, x3, x4, x5, x6, x7, x8, x9, rfl, I, e0, e1, e2, e3, e4, e5, e6, e7, e8, e9⟩ hn hd
          exact wp_val _ rfl ⟨x0, x1, x2, x3, x4, _, x6, x7, x8, x9, rfl, I, e0, e1, e2, e3, e4, fun _ => rfl, e6, e7, e8, e9⟩
        · rintro d A W ⟨x0, x1, x2, x3, x4, x5, x6, x7, x8, x9, rfl, I, e0, e1, e2, e3, e4, e5, e6, e7, e8, e9⟩ hn hd
          obtain rfl := e4 (hd ⟨4, .data⟩ (by simp))
          obtain rfl := e5 (hd ⟨5, .data⟩ (by simp))
          exact eqEvRowWp _ _ rfl b' off' n cap' j rfl rfl hlt ⟨x0, x1, x2, x3, _, _, _, x7, x8, x9, rfl, I, e0, e1, e2, e3, e4, e5, fun _ => rfl, e7, e8, e9⟩
        · rintro d A W ⟨x0, x1, x2, x3, x4, x5, x6, x7, x8, x9, rfl, I, e0, e1, e2, e3, e4, e5, e6, e7, e8, e9⟩ hn hd
          obtain rfl := e6 (hd ⟨6, .data⟩ (by simp))
          exact wp_load_mid 37 _ rfl b' (off' + j * 2) rfl [ys[j].1, ys[j].2] _ (HR'.out W I) Try.underlying37 rfl size35e ⟨x0, x1, x2, x3, x4, x5, _, _, x8, x9, rfl, I, e0, e1, e2, e3, e4, e5, e6, fun _ => rfl, e8, e9⟩
        · rintro d A W ⟨x0, x1, x2, x3, x4, x5, x6, x7, x8, x9, rfl, I, e0, e1, e2, e3, e4, e5, e6, e7, e8, e9⟩ hn hd
          obtain rfl := e3 (hd ⟨3, .data⟩ (by simp))
          obtain rfl := e7 (hd ⟨7, .data⟩ (by simp))
          refine wp_call 100 #[.agg #[xs[j].1, xs[j].2], .agg #[ys[j].1, ys[j].2]] (by kernel_rfl) _ (HE.out W I) ?_
          rintro e W' ⟨rfl, hb1⟩
          exact ⟨_, rfl, x0, x1, x2, _, x4, x5, x6, _, _, x9, rfl, belowCall I hb1 I.size, e0, e1, e2, e3, e4, e5, e6, e7, fun _ => rfl, e9⟩
        · rintro d A W ⟨x0, x1, x2, x3, x4, x5, x6, x7, x8, x9, rfl, I, e0, e1, e2, e3, e4, e5, e6, e7, e8, e9⟩ hn hd
          obtain rfl := e8 (hd ⟨8, .data⟩ (by simp))
          exact wp_val _ rfl ⟨x0, x1, x2, x3, x4, x5, x6, x7, _, _, rfl, I, e0, e1, e2, e3, e4, e5, e6, e7, e8, fun _ => rfl⟩
        · rintro d A W ⟨x0, x1, x2, x3, x4, x5, x6, x7, x8, x9, rfl, I, e0, e1, e2, e3, e4, e5, e6, e7, e8, e9⟩ hd
          obtain rfl := e0 (hd 0 (by decide))
          obtain rfl := e1 (hd 1 (by decide))
          obtain rfl := e2 (hd 2 (by decide))
          obtain rfl := e3 (hd 3 (by decide))
          obtain rfl := e4 (hd 4 (by decide))
          obtain rfl := e5 (hd 5 (by decide))
          obtain rfl := e6 (hd 6 (by decide))
          obtain rfl := e7 (hd 7 (by decide))
          obtain rfl := e8 (hd 8 (by decide))
          obtain rfl := e9 (hd 9 (by decide))
          clear e0 e1 e2 e3 e4 e5 e6 e7 e8 e9 hd
          cases heq : q j with
          | false =>
            have hab : Hid (¬ ∀ j, j < n → q j = true) := fun h => by have := h j hlt; rw [heq] at this; cases this
            go_wp2
            go_ret
            exact ⟨_, rfl, ⟨fun h => (by cases h), fun h => absurd (fun j hj => h.2 j hj) hab.out⟩, I⟩
          | true =>
            go_wp2
            go_roundw
            case rel =>
              refine ⟨j + 1, by omega, by go_num, fun t ht => ?_, I⟩
              by_cases hjk : t < j
              · exact hall.out t hjk
              · obtain rfl : t = j := by omega
                exact heq
            case measure => simp [intOf]; omega
      · obtain rfl : j = n := by omega
        clear h3 h3'
        go_wp2
        go_ret
        exact ⟨_, rfl, ⟨fun _ => ⟨by trivial, hall.out⟩, fun _ => rfl⟩, hbr⟩
  · have hneb : ((xs.length : Int) != (ys.length : Int)) = true := by rw [bne_iff_ne]; omega
    have hab : Hid (¬ xs.length = ys.length) := hne
    clear hne h3 h3'
    go_enter Try.func85, Try.ntmps85
    go_wp2
    go_ret
    exact ⟨_, rfl, ⟨fun h => (by cases h), fun h => absurd h.1 hab.out⟩, Below.refl _ _⟩
theorem Rp.map {α β : Type} {f g : α → Value} {w : World} {v : Value} {ls : List α} (h : Rp f g w v ls) : Rp Prod.fst Prod.snd w v (ls.map fun x => (f x, g x)) := by
  obtain ⟨a, cap, rfl, h1, h2, h3⟩ := h
  refine ⟨a, cap, by simp, by simpa using h1, h2, ?_⟩
  rcases h3 with rfl | ⟨b, off, rfl, h4⟩
  · exact .inl rfl
  · refine .inr ⟨b, off, rfl, fun i hi => ?_⟩
    simpa using h4 i (by simpa using hi)
theorem eqFeatureS_c (v v' : Value) (xs ys : List (Int × Int)) (w : World) (h : Rp mf mg w v xs) (h' : Rp mf mg w v' ys) :
   Calls Try.prog 85 #[v, v'] w fun e w' => e = .returned (.bool (decide (xs = ys))) ∧ Below w.heap.size w w' := by
  refine (eqEvRow v v' _ _ (fun j => decide (xs[j]? = ys[j]?)) w (Rp.map (β := Nat) h) (Rp.map (β := Nat) h') ?_).mono ?_
  · intro j h1 h2 W hW
    have g1 : j < xs.length := by simpa using h1
    have g2 : j < ys.length := by simpa using h2
    simp only [List.getElem_map]
    refine (eqFeature_c _ _ _ _ W).mono ?_
    rintro e w' ⟨rfl, hb⟩
    exact ⟨by simp [List.getElem?_eq_getElem g1, List.getElem?_eq_getElem g2, Prod.ext_iff], hb⟩
  · rintro e w' ⟨r, rfl, hr, hb⟩
    refine ⟨?_, hb⟩
    simp only [List.length_map, decide_eq_true_eq] at hr
    have : r = decide (xs = ys) := by
      rw [Bool.eq_iff_iff, hr, decide_eq_true_eq]
      constructor
      · rintro ⟨hl, ha⟩
        apply List.ext_getElem?
        intro i
        by_cases hi : i < xs.length
        · exact ha i hi
        · rw [List.getElem?_eq_none (by omega), List.getElem?_eq_none (by omega)]
      · rintro rfl; exact ⟨rfl, fun _ _ => rfl⟩
    rw [this]
theorem own_set2 {e : TypeId} {base b cap : Nat} {w : World} {ls : Mvs} (h : Op mf mg e base w (.slice (some ⟨b, 0, none⟩) ls.length cap) ls) (j : Nat) (hj : j < ls.length) (x : Int × Int) :
    Op mf mg e base ((w.setCell ⟨b, j * 2, none⟩ (mf x)).setCell ⟨b, j * 2 + 1, none⟩ (mg x)) (.slice (some ⟨b, 0, none⟩) ls.length cap) (ls.set j x) := by
  have h1 := (World.ownsRow.stored h (j * 2) (mf x)).1
  have h2 := (World.ownsRow.stored h1 (j * 2 + 1) (mg x)).1
  rw [pr_set mf mg ls j x hj] at h2
  rw [Op, List.length_set]; exact h2
/-- the moves that are marked from q on -/
def mkM (q : Int) (n : Nat) : Mvs := (List.range n).map fun i : Nat => (q + 2 * (i : Int), q + 2 * (i : Int) + 1)
theorem mkM_len (q : Int) (n : Nat) : (mkM q n).length = n := by simp [mkM]
theorem mkM_succ (q : Int) (n : Nat) : mkM q (n + 1) = mkM q n ++ [(q + 2 * (n : Int), q + 2 * (n : Int) + 1)] := by simp [mkM, List.range_succ]
theorem mkM_at (q : Int) (n i : Nat) (h : i < (mkM q n).length) : (mkM q n)[i] = (q + 2 * (i : Int), q + 2 * (i : Int) + 1) := by simp [mkM]
theorem mkM_set (q : Int) (ls : Mvs) (j : Nat) (h : j < ls.length) : (mkM q j ++ ls.drop j).set j (q + 2 * (j : Int), q + 2 * (j : Int) + 1) = mkM q (j + 1) ++ ls.drop (j + 1) := by
  rw [List.drop_eq_getElem_cons h, mkM_succ, List.set_append]
  simp only [mkM_len, Nat.lt_irrefl, if_false, Nat.sub_self, List.set_cons_zero, List.append_assoc, List.cons_append, List.nil_append]
set_option maxHeartbeats 1600000 in
theorem markFeatureS_c (v : Value) (ls : Mvs) (q : Int) (base : Nat) (w : World) (h : Op mf mg 37 base w v ls) (h0 : 0 ≤ q) (hq : q + 2 * ls.length ≤ 1152921504606846976) :
   Calls Try.prog 60 #[v, .int .i64 q] w fun e w' => e = .returned (.int .i64 (q + 2 * ls.length)) ∧ Op mf mg 37 base w' v (mkM q ls.length) ∧ w.grownBy w' v.ownBlock := by
  have hh := h
  rcases h.2 with ⟨rfl, hn⟩ | ⟨g, cap, cur, rfl, hb, hg, hnc, hcm, hcs, ht⟩
  · obtain rfl : ls = [] := List.eq_nil_of_length_eq_zero hn
    clear hn h
    go_enter Try.func60, Try.ntmps60
    go_wp2
    refine wp_loop_rounds 1 ?_
    rw [rounds_succ]
    go_wp2
    go_ret
    exact ⟨by simp, by simpa [mkM] using hh, grown_refl _ _⟩
  · clear h hg hcs ht
    unfold maxLen at hcm
    go_enter Try.func60, Try.ntmps60
    go_wp2
    go_loopw [1, 5] (fun c i wr => ∃ j : Nat, j ≤ ls.length ∧ i = .int .i64 j ∧ c = .int .i64 (q + 2 * j) ∧ Hid (Op mf mg 37 base wr (.slice (some ⟨g, 0, none⟩) ls.length cap) (mkM q j ++ ls.drop j)) ∧ Hid (w.grownBy wr (some g))) (fun _ i _ => ls.length - (intOf i).toNat)
    case atStart => exact ⟨0, Nat.zero_le _, rfl, by simp, (by simpa [mkM] using hh : Op mf mg 37 base w (.slice (some ⟨g, 0, none⟩) ls.length cap) (mkM q 0 ++ ls.drop 0)), grown_refl _ _⟩
    case round =>
      obtain ⟨j, hj, rfl, rfl, hw, hbr⟩ := hrel
      by_cases hlt : j < ls.length
      · have hlen : (mkM q j ++ ls.drop j).length = ls.length := by simp [mkM_len]; omega
        have hO : Op mf mg 37 base wr (.slice (some ⟨g, 0, none⟩) (mkM q j ++ ls.drop j).length cap) (mkM q j ++ ls.drop j) := by rw [hlen]; exact hw.out
        have hp := pr_at mf mg (mkM q j ++ ls.drop j) j (by omega)
        obtain ⟨y0, d0⟩ : ∃ u, wr.cell? ⟨g, j * 2, none⟩ = some u := ⟨_, (World.ownsRow.cellAt hO (j * 2) (by omega)).trans hp.1⟩
        obtain ⟨y1, d1⟩ : ∃ u, wr.cell? ⟨g, j * 2 + 1, none⟩ = some u := ⟨_, (World.ownsRow.cellAt hO (j * 2 + 1) (by omega)).trans hp.2⟩
        have f0 := World.ownsRow.frozenAt hO (j * 2)
        have f1 := World.ownsRow.frozenAt hO (j * 2 + 1)
        have hS := own_set2 hO j (by omega) (q + 2 * (j : Int), q + 2 * (j : Int) + 1)
        rw [mkM_set q ls j hlt, hlen] at hS
        have HS : Hid (Op mf mg 37 base ((wr.setCell ⟨g, j * 2, none⟩ (.int .i64 (q + 2 * (j : Int)))).setCell ⟨g, j * 2 + 1, none⟩ (.int .i64 (q + 2 * (j : Int) + 1))) (.slice (some ⟨g, 0, none⟩) ls.length cap) (mkM q (j + 1) ++ ls.drop (j + 1))) := hS
        have HG : Hid (w.grownBy ((wr.setCell ⟨g, j * 2, none⟩ (.int .i64 (q + 2 * (j : Int)))).setCell ⟨g, j * 2 + 1, none⟩ (.int .i64 (q + 2 * (j : Int) + 1))) (some g)) := grown_trans (grown_trans hbr.out (grown_set _ _ _ _)) (grown_set _ _ _ _)
        clear hO hp hS hw hbr hh
        go_wp2
        go_roundw
        case rel => exact ⟨j + 1, by omega, by go_num, by go_num, HS.out, HG.out⟩
        case measure => simp [intOf]; omega
      · obtain rfl : j = ls.length := by omega
        clear hh
        go_wp2
        go_ret
        exact ⟨rfl, by have := hw.out; simpa using this, hbr.out⟩
set_option maxHeartbeats 1600000 in
theorem toFeatureS_c (v : Value) (ls : Mvs) (w : World) (h : Rp mf mg w v ls) (hn : ls.length ≤ 1048576) :
   Calls Try.prog 82 #[v] w fun e w' => ∃ v', e = .returned v' ∧ Op mf mg 37 w.heap.size w' v' ls ∧ Below w.heap.size w w' := by
  obtain ⟨a, cap, rfl, h1, h2, h3⟩ := h
  unfold maxLen at h2
  obtain ⟨i0, hi, hz0, hz1, hz2⟩ := info_parts infoEv
  go_enter Try.func82, Try.ntmps82
  go_wp2_with (at_make; refine wpList_make_full _ rfl _ _ 33 rfl w.heap.size 37 i0 (.agg #[.int .i64 0, .int .i64 0]) 2 Try.underlying33 hi hz0 hz1 .i64 .i64 _ _ ls.length rfl rfl rfl rfl (by rw [hz2]; omega) (by unfold maxLen; omega) (Nat.le_refl _) ?_)
  intro w1 ho hg
  have hx : w1.ownsRow w.heap.size 37 2 (.slice (some ⟨w.heap.size, 0, none⟩) ls.length ls.length) ls.length (pr mf mg (fil ((0, 0) : Int × Int) ls 0)) := by
    have e : pr mf mg (fil ((0, 0) : Int × Int) ls 0) = (madeCells #[Value.int .i64 0, .int .i64 0] (ls.length * 2)).toList := by rw [pr_replicate mf mg ((0, 0) : Int × Int) ls.length]; simp [fil]
    rw [e]; exact ho
  have hb : Below w.heap.size w w1 := grown_below hg (Nat.le_refl _) (by simp)
  clear hg ho
  go_wp2
  go_loopw [4] (fun i wr => ∃ j : Nat, j ≤ ls.length ∧ i = .int .i64 j ∧ wr.ownsRow w.heap.size 37 2 (.slice (some ⟨w.heap.size, 0, none⟩) ls.length ls.length) ls.length (pr mf mg (fil ((0, 0) : Int × Int) ls j)) ∧ Below w.heap.size w wr) (fun i _ => ls.length - (intOf i).toNat)
  case atStart => exact ⟨0, Nat.zero_le _, rfl, hx, hb⟩
  case round =>
    obtain ⟨j, hj, rfl, hw, hbr⟩ := hrel
    clear hx hb
    by_cases hlt : j < ls.length
    · rcases h3 with h3 | ⟨b, off, rfl, h4⟩
      · subst h3; simp at hlt
      have hc := h4 j hlt
      have hcb : b < w.heap.size := block_lt_of_cell hc.1
      have hc0 : wr.cell? ⟨b, off + j * 2, none⟩ = some (.int .i64 ls[j].1) := by rw [hbr.cell hcb]; exact hc.1
      have hc1 : wr.cell? ⟨b, off + j * 2 + 1, none⟩ = some (.int .i64 ls[j].2) := by rw [hbr.cell hcb]; exact hc.2
      clear h4 hc
      go_wp2_with (fail)
      refine (toFeature_c _ _ _).mono ?_
      rintro e w2 ⟨rfl, b2⟩
      have hw2 : w2.ownsRow w.heap.size 37 2 (.slice (some ⟨w.heap.size, 0, none⟩) ls.length ls.length) ls.length (pr mf mg (fil ((0, 0) : Int × Int) ls j)) := World.ownsRow.kept (row := none) hw ⟨b2.os, b2.tape, b2.output, b2.size, fun i hi _ => b2.block i hi⟩ (by simp [Value.ownBlock])
      have c2 := belowCall hbr b2 hbr.size
      have hfl := fil_len ((0, 0) : Int × Int) ls j hj
      have hO : Op mf mg 37 w.heap.size w2 (.slice (some ⟨w.heap.size, 0, none⟩) (fil ((0, 0) : Int × Int) ls j).length ls.length) (fil ((0, 0) : Int × Int) ls j) := by rw [Op, hfl]; exact hw2
      have hp := pr_at mf mg (fil ((0, 0) : Int × Int) ls j) j (by omega)
      obtain ⟨y0, hd0⟩ : ∃ u, w2.cell? ⟨w.heap.size, j * 2, none⟩ = some u := ⟨_, (hw2.cellAt (j * 2) (by omega)).trans hp.1⟩
      obtain ⟨y1, hd1⟩ : ∃ u, w2.cell? ⟨w.heap.size, j * 2 + 1, none⟩ = some u := ⟨_, (hw2.cellAt (j * 2 + 1) (by omega)).trans hp.2⟩
      have hf0 := hw2.frozenAt (j * 2)
      have hf1 := hw2.frozenAt (j * 2 + 1)
      have hS := own_set2 hO j (by omega) ls[j]
      rw [fil_set, Op, hfl, fil_len _ _ _ (by omega)] at hS
      have c3 : Below w.heap.size w ((w2.setCell ⟨w.heap.size, j * 2, none⟩ (.int .i64 ls[j].1)).setCell ⟨w.heap.size, j * 2 + 1, none⟩ (.int .i64 ls[j].2)) := (c2.setCell (by exact Nat.le_refl _) _).setCell (by exact Nat.le_refl _) _
      have HS : Hid _ := hS
      have HC : Hid _ := c3
      clear hw hbr hw2 c2 b2 hO hS c3 hp hfl
      go_wp2
      go_roundw
      case rel => exact ⟨j + 1, by omega, by go_num, HS.out, HC.out⟩
      case measure => simp [intOf]; omega
    · obtain rfl : j = ls.length := by omega
      rw [fil_full] at hw
      clear h3
      go_wp2
      go_ret
      exact ⟨_, rfl, hw, hbr⟩
/-- features are counted off what is left -/
theorem szFeatureS_c (v : Value) (ls : Mvs) (left : Int) (w : World) (h : Rp mf mg w v ls) (h0 : 0 ≤ left) (hl : left ≤ 1048576) :
    Calls Try.prog 81 #[v, .int .i64 left] w fun e w' => e = .returned (.int .i64 (if left < ls.length then -1 else left - ls.length)) ∧ w' = w := by
  obtain ⟨a, cap, rfl, h1, h2, -⟩ := h
  unfold maxLen at h2
  by_cases hlt : left < (ls.length : Int)
  · have g : left - (ls.length : Int) < 0 := by omega
    rw [if_pos hlt]
    clear hlt
    go_enter Try.func81, Try.ntmps81
    go_wp2
    go_ret
    exact ⟨rfl, rfl⟩
  · have g : ¬ left - (ls.length : Int) < 0 := by omega
    rw [if_neg hlt]
    clear hlt
    go_enter Try.func81, Try.ntmps81
    go_wp2
    go_ret
    exact ⟨rfl, rfl⟩
end Go.Proofs.Ytfaflnhembceoaa
