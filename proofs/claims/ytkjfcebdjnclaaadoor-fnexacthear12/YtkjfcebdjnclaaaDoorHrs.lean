/- The box of a hearing; no condition. -/
import Derived.Test.YtkjfcebdjnclaaaDoorPyi
import Derived.Test.YtkjfcebdjnclaaaDoorCdh
import Derived.Test.YtkjfcebdjnclaaaDoorDraw
import Derived.Laws.CopyOwn
import Derived.Maps.AppendAt
namespace Go.Proofs.YtkjfcebdjnclaaaDoor
open Go.RowKit Go.ChangeShapes Go.WideShapes Go.ChangeAt
set_option linter.unusedVariables false
set_option linter.unusedSimpArgs false
set_option maxRecDepth 8000
theorem int_news {w : World} {b off : Nat} {zs : List Int} (h4 : ∀ i, i < zs.length → w.cell? ⟨b, off + i, none⟩ = some (.int .i64 (zs.getD i 0))) :
    ∀ j u, (zs.map (Value.int .i64))[j]? = some u → w.cell? ((⟨b, off, none⟩ : Addr).add j) = some u := by
  intro j u hu
  have hj : j < zs.length := by have := (List.getElem?_eq_some_iff.1 hu).1; simpa using this
  rw [Addr.add_lit, h4 j hj]
  rw [List.getElem?_map, List.getElem?_eq_getElem hj] at hu
  simp [List.getElem?_eq_getElem hj] at hu ⊢
  exact hu
/-- ints put behind a row of one's own -/
theorem appIs {ops : Array Oper} {rest : List Oper} {o : Oper} {a : Act} {w : World} {Q : Exit → Act → World → Prop} (hgd : o.guard = none) (s x : Operand)
    (ho : o.op = .call { callee := .builtin .append, args := #[s, x], argTypes := #[26, 26] }) (base : Nat) (v : Value) (l0 : List Int) (hs : a.eval s = v) (hown : Ow .i64 3 base w v l0)
    (v2 : Value) (ls : List Int) (hx : a.eval x = v2) (hr : Rd .i64 w v2 ls) (hl : l0.length + ls.length ≤ 1099511627776) (hbase : base ≤ w.heap.size)
    (h : ∀ v' w', Ow .i64 3 base w' v' (l0 ++ ls) → w.grownBy w' v.ownBlock → (v'.ownBlock = v.ownBlock ∨ v'.ownBlock = some w.heap.size) → wpList Tryd.prog ops Q rest (a.put o.dst v') w') : wpList Tryd.prog ops Q (o :: rest) a w := by
  obtain ⟨i0, hi, hz0, hz1, hz2⟩ := info_parts toIInfo
  obtain ⟨av, cap, rfl, h1, h2, h3⟩ := hr
  by_cases hav : av = none
  · subst hav
    have hl0 : ls = [] := by
      rcases h3 with h3 | ⟨b, off, e, -⟩
      · exact h3
      · cases e
    subst hl0
    refine wpList_plain hgd fun K hK => ?_
    have hx' : a.eval x = .slice none 0 cap := hx
    obtain ⟨v', w', hr, q1, q2, q3⟩ : ∃ v' w', (Builtin.append_ #[26, 26] o.type #[v, .slice none 0 cap]).run Tryd.prog w = .ok v' w' ∧ Ow .i64 3 base w' v' (l0 ++ []) ∧ w.grownBy w' v.ownBlock ∧ (v'.ownBlock = v.ownBlock ∨ v'.ownBlock = some w.heap.size) := by
      refine ⟨v, w, ?_, by simpa using hown, grown_refl _ _, .inl rfl⟩
      rcases hown.2 with ⟨rfl, h0⟩ | ⟨g, cp, cur, rfl, _, _, hnc, _⟩
      · simp [Builtin.append_, run_underlying Tryd.underlying26, sizeOf, typeInfo, hi, Builtin.lenOf, Builtin.firstCells]
      · simp [Builtin.append_, run_underlying Tryd.underlying26, sizeOf, typeInfo, hi, Builtin.lenOf, Builtin.firstCells, hnc, storeCells]
    unfold Oper.wp execOp
    simp only [ho, resolve, invoke, builtin, Sem.run_bind, Sem.run_pure, Result.andThen_ok, List.map_toArray, List.map_cons, List.map_nil, hs, hx', hr]
    exact hK _ _ (h v' w' q1 q2 q3)
  · obtain ⟨ad, rfl⟩ : ∃ ad, av = some ad := by cases av with | none => exact absurd rfl hav | some ad => exact ⟨ad, rfl⟩
    refine wpList_append_own_at w hgd s x 26 ho base 3 i0 (.int .i64 0) 1 8 Tryd.underlying26 hi hz0 hz1 hz2 rfl (by decide) v l0.length (l0.map (Value.int .i64)) hs hown ad ls.length cap (ls.map (Value.int .i64)) hx (by simp) ?_ ?_ ?_ ?_ hbase ?_
    · rcases h3 with rfl | ⟨b, off, e, h4⟩
      · intro j u hu; simp at hu
      · cases e
        exact int_news h4
    · intro u hu; simp at hu; obtain ⟨q, -, rfl⟩ := hu; rfl
    · unfold maxLen; omega
    · omega
    · intro v' w' g1 g2 g3 g4
      refine h v' w' ?_ g2 g4
      rw [Ow, List.map_append, List.length_append]; exact g1

abbrev hsA (p : Pl) (v u : Value) (b : Bool) : Array Value := #[.int .i64 p.n, .int .i64 p.d, .int .i64 p.l, .int .i64 p.g, .int .i64 p.x, v, u, .bool b]
abbrev plL (p : Pl) (v : Value) : List Value := [.int .i64 p.n, .int .i64 p.d, .int .i64 p.l, .int .i64 p.g, .int .i64 p.x, v]
theorem hs_range {W : World} {G : Nat} {p : Pl} {v u : Value} {b : Bool} (h : Blk W G (hsA p v u b) 88) : W.rangeAt G 0 (plL p v) := by
  intro j x hx
  rw [Nat.zero_add, h.cell]
  match j, hx with
  | 0, hx => simpa using hx
  | 1, hx => simpa using hx
  | 2, hx => simpa using hx
  | 3, hx => simpa using hx
  | 4, hx => simpa using hx
  | 5, hx => simpa using hx
theorem hs_there {W : World} {G : Nat} {p : Pl} {v u : Value} {b : Bool} (h : Blk W G (hsA p v u b) 88) : W.there G 0 6 := fun j hj => by
  refine ⟨?_, h.frozen _⟩
  rw [Nat.zero_add, h.cell, Array.getElem?_eq_getElem (by show j < 8; omega)]; rfl
theorem hs_put {W : World} {G : Nat} {p q : Pl} {v u x : Value} {b : Bool} (h : Blk W G (hsA p v u b) 88) : Blk (W.setCells G 0 (plL q x)) G (hsA q x u b) 88 := Blk.setCells (plL q x) 0 (l := [.int .i64 p.n, .int .i64 p.d, .int .i64 p.l, .int .i64 p.g, .int .i64 p.x, v, u, .bool b]) h
theorem grown_setCells {g : Nat} : ∀ (vs : List Value) (o : Nat) (w : World), w.grownBy (w.setCells g o vs) (some g)
  | [], _, w => grown_refl w _
  | v :: r, o, w => grown_trans (dgrown_set w g o v) (grown_setCells r (o + 1) _)
theorem Ow.form' {base : Nat} {w : World} {v : Value} {ls : List Int} (h : Ow .i64 3 base w v ls) : ∃ a cap, v = .slice a ls.length cap := by
  rcases h.2 with ⟨rfl, hn⟩ | ⟨b, cap, cur, rfl, -⟩
  · exact ⟨none, 0, by rw [hn]⟩
  · exact ⟨_, _, rfl⟩
theorem Ow.lt' {base : Nat} {w : World} {v : Value} {ls : List Int} (h : Ow .i64 3 base w v ls) (k : Nat) (hk : v.ownBlock = some k) : base ≤ k ∧ k < w.heap.size := World.ownsRow.lt h k hk
theorem og_ne {base : Nat} {W : World} {v : Value} {ls : List Pk} {g : Nat} {cs : Array Value} {t : TypeId} (h : Og 18 pkC 40 base W v ls) (hb : Blk W g cs t) (ht : t ≠ 40) : v.ownBlock ≠ some g := by
  intro e
  rcases h.2 with ⟨rfl, -⟩ | ⟨k, cap, cur, rfl, -, hg, -⟩
  · cases e
  · obtain rfl : k = g := by simpa [Value.ownBlock] using e
    rw [Blk, hg] at hb
    cases hb
    exact ht rfl
theorem ow_ne {base : Nat} {W : World} {v : Value} {ls : List Int} {g : Nat} {cs : Array Value} {t : TypeId} (h : Ow .i64 3 base W v ls) (hb : Blk W g cs t) (ht : t ≠ 3) : v.ownBlock ≠ some g := by
  intro e
  rcases h.2 with ⟨rfl, -⟩ | ⟨k, cap, cur, rfl, -, hg, -⟩
  · cases e
  · obtain rfl : k = g := by simpa [Value.ownBlock] using e
    rw [Blk, hg] at hb
    cases hb
    exact ht rfl
/-- a row of packets and a row of numbers lie apart -/
theorem og_ow {base base' : Nat} {W : World} {v u : Value} {ls : List Pk} {zs : List Int} (h : Og 18 pkC 40 base W v ls) (h' : Ow .i64 3 base' W u zs) : v.ownBlock = none ∨ v.ownBlock ≠ u.ownBlock := by
  rcases h.2 with ⟨rfl, -⟩ | ⟨k, cap, cur, rfl, -, hg, -⟩
  · exact .inl rfl
  · refine .inr ?_
    rcases h'.2 with ⟨rfl, -⟩ | ⟨k', cap', cur', rfl, -, hg', -⟩
    · intro e; cases e
    · intro e
      obtain rfl : k = k' := by simpa [Value.ownBlock] using e
      rw [hg] at hg'
      cases hg'
theorem grown_setRow (W : World) (X : Nat) (cs : Array Value) : W.grownBy (W.setRow X cs) (some X) := ⟨rfl, rfl, rfl, by simp, fun i _ hi => setRow_other W _ i _ (fun e => hi (by simp [e]))⟩
/-- a hearing that lies in the box G: its player, what is stored, what was heard, whether it has begun -/
def Hs (base G : Nat) (W : World) (p : Pl) (st : List Pk) (lv : List Int) (b : Bool) : Prop := ∃ v u, Blk W G (hsA p v u b) 88 ∧ Og 18 pkC 40 base W v st ∧ Ow .i64 3 base W u lv ∧ base ≤ G
/-- what is done to a hearing's player is laid back into its box -/
theorem hs_next {base G X : Nat} {W W3 : World} {p q : Pl} {v u x : Value} {b : Bool} {st : List Pk} {lv : List Int} (h : Blk W G (hsA p v u b) 88) (hU : Ow .i64 3 base W u lv) (hg : base ≤ G) (b3 : Below W.heap.size W W3) (hO : Og 18 pkC 40 W.heap.size W3 x st) (hX : W3.heap.size = X) :
    Blk (W3.alloc (.cells (plA ⟨0, 0, 0, 0, 0⟩ (.slice none 0 0)) 42)) X (plA ⟨0, 0, 0, 0, 0⟩ (.slice none 0 0)) 42 ∧ Blk ((W3.alloc (.cells (plA ⟨0, 0, 0, 0, 0⟩ (.slice none 0 0)) 42)).setRow X (plA q x)) X (plA q x) 42 ∧ Blk ((W3.alloc (.cells (plA ⟨0, 0, 0, 0, 0⟩ (.slice none 0 0)) 42)).setRow X (plA q x)) G (hsA p v u b) 88 ∧ Below W.heap.size W ((W3.alloc (.cells (plA ⟨0, 0, 0, 0, 0⟩ (.slice none 0 0)) 42)).setRow X (plA q x)) ∧
    Blk (((W3.alloc (.cells (plA ⟨0, 0, 0, 0, 0⟩ (.slice none 0 0)) 42)).setRow X (plA q x)).setCells G 0 (plL q x)) G (hsA q x u b) 88 ∧ Blk (((W3.alloc (.cells (plA ⟨0, 0, 0, 0, 0⟩ (.slice none 0 0)) 42)).setRow X (plA q x)).setCells G 0 (plL q x)) X (plA q x) 42 ∧
    Og 18 pkC 40 W.heap.size (((W3.alloc (.cells (plA ⟨0, 0, 0, 0, 0⟩ (.slice none 0 0)) 42)).setRow X (plA q x)).setCells G 0 (plL q x)) x st ∧ Ow .i64 3 base (((W3.alloc (.cells (plA ⟨0, 0, 0, 0, 0⟩ (.slice none 0 0)) 42)).setRow X (plA q x)).setCells G 0 (plL q x)) u lv ∧
    Below base W (((W3.alloc (.cells (plA ⟨0, 0, 0, 0, 0⟩ (.slice none 0 0)) 42)).setRow X (plA q x)).setCells G 0 (plL q x)) ∧ W3.grownBy (((W3.alloc (.cells (plA ⟨0, 0, 0, 0, 0⟩ (.slice none 0 0)) 42)).setRow X (plA q x)).setCells G 0 (plL q x)) (some G) := by
  obtain ⟨W4, hW4⟩ : ∃ W, W3.alloc (.cells (plA ⟨0, 0, 0, 0, 0⟩ (.slice none 0 0)) 42) = W := ⟨_, rfl⟩
  have K4 : Blk W4 X (plA ⟨0, 0, 0, 0, 0⟩ (.slice none 0 0)) 42 := by rw [← hW4, ← hX]; exact Blk.new _ _ _
  have a4 : Below W3.heap.size W3 W4 := by rw [← hW4]; exact (Below.refl _ _).alloc (Nat.le_refl _) _
  have b4 : Below W.heap.size W W4 := belowCall b3 a4 b3.size
  have hGW := h.lt
  have hXW : W.heap.size ≤ X := by rw [← hX]; exact b3.size
  have O4 : Og 18 pkC 40 W.heap.size W4 x st := hO.below a4
  rw [hW4]
  obtain ⟨W5, hW5⟩ : ∃ W, W4.setRow X (plA q x) = W := ⟨_, rfl⟩
  have K5 : Blk W5 X (plA q x) 42 := by rw [← hW5]; exact K4.row _
  have b5 : Below W.heap.size W W5 := by rw [← hW5]; exact belowRow b4 _ hXW _
  have g5 : W4.grownBy W5 (some X) := by rw [← hW5]; exact grown_setRow _ _ _
  have O5 : Og 18 pkC 40 W.heap.size W5 x st := World.ownsRow.kept O4 g5 (.inr (og_ne O4 K4 (by decide)))
  rw [hW5]
  have B5 : Blk W5 G (hsA p v u b) 88 := h.below b5 hGW
  have U5 : Ow .i64 3 base W5 u lv := hU.below b5
  obtain ⟨W6, hW6⟩ : ∃ W, W5.setCells G 0 (plL q x) = W := ⟨_, rfl⟩
  have g6 : W5.grownBy W6 (some G) := by rw [← hW6]; exact grown_setCells _ _ _
  have e35 : Below W3.heap.size W3 W5 := by rw [← hW5]; exact belowRow a4 _ (by omega) _
  rw [hW6]
  refine ⟨K4, K5, B5, b5, by rw [← hW6]; exact hs_put B5, K5.grownO g6 (fun e => by have := Option.some.inj e; omega), World.ownsRow.kept O5 g6 (.inr (og_ne O5 B5 (by decide))), World.ownsRow.kept U5 g6 (.inr (ow_ne U5 B5 (by decide))), ?_, ?_⟩
  · exact (b5.mono (by omega)).trans (grown_below g6 (by have := b5.size; omega) (fun k e => by have := Option.some.inj e; omega))
  · exact ⟨g6.os.trans e35.os, g6.tape.trans e35.tape, g6.output.trans e35.output, Nat.le_trans e35.size g6.size, fun k hk hne => (g6.block k (Nat.lt_of_lt_of_le hk e35.size) hne).trans (e35.block k hk)⟩

end Go.Proofs.YtkjfcebdjnclaaaDoor
namespace Go.Proofs.YtkjfcebdjnclaaaDoor
open Go.RowKit Go.ChangeShapes Go.WideShapes Go.ChangeAt
set_option linter.unusedVariables false
set_option linter.unusedSimpArgs false
set_option maxRecDepth 8000

/-- what playOne leaves -/
def PoR (base G : Nat) (W : World) (p : Pl) (st : List Pk) (lv : List Int) (b : Bool) (e : Ending) (W' : World) : Prop := Below base W W' ∧ (PyP p st → e = .returned (.bool true) ∧ Hs base G W' (pyF p st) (st.drop (pcF st (p.n + 1))) (lv ++ (lvF st p.n p.x).1) b) ∧ (¬ PyP p st → e = .returned (.bool false))
set_option maxHeartbeats 6400000 in
theorem playOne_c {base G : Nat} {W : World} {p : Pl} {st : List Pk} {lv : List Int} {b : Bool} (h : Hs base G W p st lv b) (hn : st.length ≤ 1048576) (hG : ChG W) (hb : ∀ k ∈ st, PkBy k) (hl : lv.length ≤ 1048576) : Calls Tryd.prog 74 #[.pointer (some ⟨G, 0, none⟩)] W (PoR base G W p st lv b) := by
  obtain ⟨v, u, hB, hO, hU, hg⟩ := h
  have HR : Hid (W.rangeAt G 0 (plL p v)) := hs_range hB
  have HPL : Hid (Calls Tryd.prog 28 #[.agg (plA p v)] W fun e W' => ∃ q s o ok, PyR q s o ok W e W' ∧ o.length ≤ 30 ∧ (PyP p st → ok = true ∧ q = pyF p st ∧ s = st.drop (pcF st (p.n + 1)) ∧ o = (lvF st p.n p.x).1) ∧ (¬ PyP p st → ok = false)) := by
    refine (playI_c p v st W (hO.rd pkC_len) hn hG hb).mono ?_
    rintro e w' ⟨h1, h2⟩
    by_cases hP : PyP p st
    · exact ⟨_, _, _, _, h1 hP, by rw [lvF_len]; exact Nat.le_refl _, fun _ => ⟨rfl, rfl, rfl, rfl⟩, fun h => absurd hP h⟩
    · exact ⟨_, _, _, _, h2 hP, by simp, fun h => absurd h hP, fun _ => rfl⟩
  have HB : Hid (Blk W G (hsA p v u b) 88) := hB
  have HU : Hid (Ow .i64 3 base W u lv) := hU
  have HG : Hid (base ≤ G) := hg
  have HL : Hid (lv.length ≤ 1048576) := hl
  clear hB hO hU hg hn hG hb hl
  go_enter Tryd.func74, Tryd.ntmps74
  go_wp2_with (refine wpList_load_mid rfl 42 _ rfl G 0 rfl (plL p v) _ HR.out Tryd.underlying42 rfl (by kernel_rfl) ?_)
  refine HPL.out.mono ?_
  rintro e W3 ⟨q, s, o, ok, ⟨x, y, rfl, ho, hy, b3⟩, hlen, hc⟩
  have HC : Hid ((PyP p st → ok = true ∧ q = pyF p st ∧ s = st.drop (pcF st (p.n + 1)) ∧ o = (lvF st p.n p.x).1) ∧ (¬ PyP p st → ok = false)) := hc
  have HLN : Hid (o.length ≤ 30) := hlen
  obtain ⟨ax, cx, rfl⟩ := ho.form
  obtain ⟨ay, cy, rfl⟩ := hy.form'
  obtain ⟨X, hX⟩ : ∃ X, W3.heap.size = X := ⟨_, rfl⟩
  obtain ⟨k4, k5, g5, b5, g6, k6, o6, u6, b6, r6⟩ := hs_next (q := q) HB.out HU.out HG.out b3 ho hX
  have HY6 : Hid (Rd .i64 (((W3.alloc (.cells (plA ⟨0, 0, 0, 0, 0⟩ (.slice none 0 0)) 42)).setRow X (plA q (.slice ax s.length cx))).setCells G 0 (plL q (.slice ax s.length cx))) (.slice ay o.length cy) o) := Ow.rd (e := 3) (base := W.heap.size) (World.ownsRow.kept hy r6 (by
    cases hv : (Value.slice ay o.length cy).ownBlock with
    | none => exact .inl rfl
    | some m => exact .inr (fun e => by have := (hy.lt' m hv).1; have := Option.some.inj e; have := HB.out.lt; omega)))
  obtain ⟨W4, hW4⟩ : ∃ W, W3.alloc (.cells (plA ⟨0, 0, 0, 0, 0⟩ (.slice none 0 0)) 42) = W := ⟨_, rfl⟩
  rw [hW4] at k4 k5 g5 b5 g6 k6 o6 u6 b6 HY6
  obtain ⟨W5, hW5⟩ : ∃ W, W4.setRow X (plA q (.slice ax s.length cx)) = W := ⟨_, rfl⟩
  rw [hW5] at k5 g5 b5 g6 k6 o6 u6 b6 HY6
  obtain ⟨W6, hW6⟩ : ∃ W, W5.setCells G 0 (plL q (.slice ax s.length cx)) = W := ⟨_, rfl⟩
  rw [hW6] at g6 k6 o6 u6 b6 HY6
  have K4 : Hid (Blk W4 X (plA ⟨0, 0, 0, 0, 0⟩ (.slice none 0 0)) 42) := k4
  have K5 : Hid (Blk W5 X (plA q (.slice ax s.length cx)) 42) := k5
  have T5 : Hid (W5.there G 0 6) := hs_there g5
  have G6 : Hid (Blk W6 G (hsA q (.slice ax s.length cx) u b) 88) := g6
  have O6 : Hid (Og 18 pkC 40 base W6 (.slice ax s.length cx) s) := o6.mono (by have := HB.out.lt; have := HG.out; omega)
  have U6 : Hid (Ow .i64 3 base W6 u lv) := u6
  have B6 : Hid (Below base W W6) := b6
  have x6 : W6.cell? ⟨G, 6, none⟩ = some u := by rw [g6.cell]; rfl
  have HW4 : Hid (W3.alloc (.cells (plA ⟨0, 0, 0, 0, 0⟩ (.slice none 0 0)) 42) = W4 ∧ W3.heap.size = X) := ⟨hW4, hX⟩
  have HW5 : Hid (W4.setRow X (plA q (.slice ax s.length cx)) = W5) := hW5
  have HW6 : Hid (W5.setCells G 0 (plL q (.slice ax s.length cx)) = W6) := hW6
  clear hc hlen ho hy b3 k4 k5 g5 b5 g6 k6 o6 u6 b6 r6 hW4 hW5 hW6 hX HPL HR
  have S6 : Hid (base ≤ W6.heap.size) := by have := G6.out.lt; have := HG.out; show _ ≤ _; omega
  go_wp2_with (first | (rw [HW4.out.1, HW4.out.2]; refine wpList_store_row rfl 42 _ _ rfl X (plA q (.slice ax s.length cx)) rfl rfl 42 (plA ⟨0, 0, 0, 0, 0⟩ (.slice none 0 0)) K4.out (by kernel_rfl) rfl (by simp [Value.oneCell']) ?_; rw [HW5.out]) | refine wpList_load_row rfl 42 _ rfl X rfl 42 (plA q (.slice ax s.length cx)) (0, 0) _ K5.out Tryd.underlying42 rfl (by kernel_rfl) ?_ | (refine wpList_store_mid rfl 42 _ _ rfl G 0 (plA q (.slice ax s.length cx)) rfl rfl T5.out (by kernel_rfl) (by simp [Value.oneCell']) ?_; rw [HW6.out]) | (at_builtin; refine appIs rfl _ _ rfl base u lv rfl U6.out (.slice ay o.length cy) o rfl HY6.out (by have := HL.out; have := HLN.out; omega) S6.out ?_))
  intro z W7 o7 r7 s7
  have NU := ow_ne U6.out G6.out (by decide)
  have g7 : Blk W7 G (hsA q (.slice ax s.length cx) u b) 88 := G6.out.grownO r7 NU
  have n7 : z.ownBlock ≠ some G := ow_ne o7 g7 (by decide)
  obtain ⟨az, cz, rfl⟩ := o7.form'
  obtain ⟨N, hN⟩ : ∃ N, (lv ++ o).length = N := ⟨_, rfl⟩
  rw [hN] at o7 n7 s7 ⊢
  have c7 : W7.cell? ⟨G, 6, none⟩ = some u := by rw [g7.cell]; rfl
  have f7 := g7.frozen 6
  have q7 : Og 18 pkC 40 base W7 (.slice ax s.length cx) s := World.ownsRow.kept O6.out r7 (og_ow O6.out U6.out)
  have b7 : Below base W W7 := B6.out.trans (grown_below r7 S6.out (fun k e => (U6.out.lt' k e).1))
  have n7' := og_ne q7 g7 (by decide)
  have HE : Hid (Below base W (W7.setCell ⟨G, 6, none⟩ (.slice az N cz)) ∧ Hs base G (W7.setCell ⟨G, 6, none⟩ (.slice az N cz)) q s (lv ++ o) b) := by
    refine ⟨b7.setCell (by exact HG.out) _, .slice ax s.length cx, .slice az N cz, ?_, World.ownsRow.kept q7 (dgrown_set _ _ _ _) (.inr n7'), World.ownsRow.kept o7 (dgrown_set _ _ _ _) (.inr n7), HG.out⟩
    exact g7.set 6 _
  clear hN g7 n7 q7 b7 n7' NU r7 s7 o7 x6 HW4 HW5 HW6 K4 K5 T5 G6 O6 U6 B6 S6 HY6 HB HU HG HL HLN
  go_wp2
  go_ret
  refine ⟨HE.out.1, fun hP => ?_, fun hP => ?_⟩
  · obtain ⟨rfl, rfl, rfl, rfl⟩ := HC.out.1 hP
    exact ⟨rfl, HE.out.2⟩
  · obtain rfl := HC.out.2 hP
    rfl

end Go.Proofs.YtkjfcebdjnclaaaDoor
