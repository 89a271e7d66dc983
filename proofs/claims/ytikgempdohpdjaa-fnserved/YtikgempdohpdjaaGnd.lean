/- Rows of rows that are drawn; no condition. -/
import Derived.Test.YtikgempdohpdjaaNst
namespace Go.Proofs.Ytikgempdohpdjaa
open Go.RowKit Go.ChangeShapes Go.WideShapes Go.ChangeAt
set_option linter.unusedVariables false
set_option linter.unusedSimpArgs false
set_option maxRecDepth 8000

/-- rows of one's own in a row of one's own, while they are drawn -/
structure Gd (w1 W : World) (g : Nat) (cv : Value) (code : List Int) (v : Value) (us : List Value) (ls : List (List Int)) : Prop where
  len : us.length = ls.length
  row : W.ownsRow w1.heap.size 27 1 v us.length us
  own : ∀ i, i < ls.length → Ow .i64 3 w1.heap.size W (us.getD i vN) (ls.getD i [])
  ne : ∀ i, i < ls.length → ∀ k, (us.getD i vN).ownBlock = some k → v.ownBlock ≠ some k
  ap : ∀ i j, i < j → j < ls.length → ∀ k, (us.getD i vN).ownBlock = some k → (us.getD j vN).ownBlock ≠ some k
  dc : Dc w1 W g cv code
theorem own_grown {base : Nat} {w w' : World} {e : TypeId} {s n g : Nat} {v : Value} {xs : List Value} (h : w.ownsRow base e s v n xs) (hg : w.grownBy w' (some g)) (hl : g < base) : w'.ownsRow base e s v n xs := by
  refine World.ownsRow.kept h hg ?_
  cases hv : v.ownBlock with
  | none => exact .inl rfl
  | some k => exact .inr (fun e => by cases e; have := (World.ownsRow.lt h g hv).1; omega)
/-- what is drawn into new memory leaves them -/
theorem Gd.grown {w1 W W' : World} {g : Nat} {cv : Value} {code : List Int} {v : Value} {us : List Value} {ls : List (List Int)} (h : Gd w1 W g cv code v us ls) (hd : Dc W W' g cv code) : Gd w1 W' g cv code v us ls :=
  ⟨h.len, own_grown h.row hd.gr h.dc.lt, fun i hi => own_grown (h.own i hi) hd.gr h.dc.lt, h.ne, h.ap, h.dc.then hd⟩
theorem Gd.draw {w1 W W' : World} {g : Nat} {cv : Value} {code : List Int} {v : Value} {us : List Value} {ls : List (List Int)} (h : Gd w1 W g cv code v us ls) (hd : Dr W' g cv code) (hg : W.grownBy W' (some g)) : Gd w1 W' g cv code v us ls :=
  ⟨h.len, own_grown h.row hg h.dc.lt, fun i hi => own_grown (h.own i hi) hg h.dc.lt, h.ne, h.ap, h.dc.draw hd hg⟩
theorem Gd.below {w1 W W' : World} {g : Nat} {cv : Value} {code : List Int} {v : Value} {us : List Value} {ls : List (List Int)} (h : Gd w1 W g cv code v us ls) (hb : Below W.heap.size W W') : Gd w1 W' g cv code v us ls :=
  ⟨h.len, World.ownsRow.kept (row := none) h.row ⟨hb.os, hb.tape, hb.output, hb.size, fun j hj _ => hb.block j hj⟩ (by cases v.ownBlock <;> simp), fun i hi => (h.own i hi).below hb, h.ne, h.ap, h.dc.below hb⟩
theorem Gd.size {w1 W : World} {g : Nat} {cv : Value} {code : List Int} {v : Value} {us : List Value} {ls : List (List Int)} (h : Gd w1 W g cv code v us ls) : w1.heap.size ≤ W.heap.size := h.dc.gr.size
/-- they are read in every world that was only drawn in since -/
theorem rows_keep {base : Nat} {W W' : World} {g : Nat} {v : Value} {us : List Value} {ls : List (List Int)} (hl : us.length = ls.length) (hr : W.ownsRow base 27 1 v us.length us) (ho : ∀ i, i < ls.length → Ow .i64 3 base W (us.getD i vN) (ls.getD i [])) (hg : W.grownBy W' (some g)) (hlt : g < base) : Rn W' v ls := by
  have hr' := own_grown hr hg hlt
  rcases hr'.2 with ⟨rfl, hn⟩ | ⟨b, cap, cur, rfl, hb, hgb, hnc, hcm, hcs, ht⟩
  · exact ⟨none, 0, by rw [show ls.length = 0 by omega], by omega, by simp, .inl (List.eq_nil_of_length_eq_zero (by omega))⟩
  · refine ⟨_, cap, by rw [hl], by omega, hcm, .inr ⟨b, 0, rfl, fun i hi => ⟨us.getD i vN, ?_, Ow.rd (k := .i64) (e := 3) (base := base) (own_grown (ho i hi) hg hlt)⟩⟩⟩
    have := World.ownsRow.cellAt hr' i (by omega)
    rw [Nat.zero_add, this, List.getD_eq_getElem?_getD, List.getElem?_eq_getElem (by rw [hl]; exact hi)]
    rfl
theorem Gd.keep {w1 W W' : World} {g : Nat} {cv : Value} {code : List Int} {v : Value} {us : List Value} {ls : List (List Int)} (h : Gd w1 W g cv code v us ls) (hg : W.grownBy W' (some g)) : Rn W' v ls := rows_keep h.len h.row h.own hg h.dc.lt
/-- one row more: W0 is where it began -/
theorem Gd.push {w1 W W1 W' : World} {g : Nat} {cv : Value} {code : List Int} {v vr v' : Value} {us : List Value} {ls : List (List Int)} {rs : List Int} {B : Nat} (h : Gd w1 W g cv code v us ls) (hB1 : w1.heap.size ≤ B) (hBl : ∀ i, i < ls.length → ∀ k, (us.getD i vN).ownBlock = some k → k < B) (hBv : ∀ k, v.ownBlock = some k → k < B) (ho : Ow .i64 3 B W vr rs) (hb : Below W.heap.size W W1)
    (hr : W'.ownsRow w1.heap.size 27 1 v' (us ++ [vr]).length (us ++ [vr])) (hg : W1.grownBy W' v.ownBlock) (hbk : v'.ownBlock = v.ownBlock ∨ v'.ownBlock = some W1.heap.size) : Gd w1 W' g cv code v' (us ++ [vr]) (ls ++ [rs]) := by
  have h1 := h.below hb
  have ho1 := ho.below hb
  have e1 : ∀ i, i < ls.length → (us ++ [vr]).getD i vN = us.getD i vN := fun i hi => by simp [List.getElem?_append_left (show i < us.length by rw [h.len]; exact hi)]
  have e2 : ∀ i, i < ls.length → (ls ++ [rs]).getD i [] = ls.getD i [] := fun i hi => by simp [List.getElem?_append_left hi]
  have e3 : (us ++ [vr]).getD ls.length vN = vr := by rw [List.getD_eq_getElem?_getD, List.getElem?_append_right (by rw [h.len]; exact Nat.le_refl _)]; simp [h.len]
  have e4 : (ls ++ [rs]).getD ls.length [] = rs := by rw [List.getD_eq_getElem?_getD, List.getElem?_append_right (Nat.le_refl _)]; simp
  have kp : ∀ {u : Value} {zs : List Int}, Ow .i64 3 w1.heap.size W1 u zs → (∀ k, u.ownBlock = some k → v.ownBlock ≠ some k) → Ow .i64 3 w1.heap.size W' u zs := fun {u zs} hu hn => World.ownsRow.kept hu hg (by
    cases hv : u.ownBlock with
    | none => exact .inl rfl
    | some k => exact .inr (fun e => hn k hv e.symm))
  have nr : ∀ k, vr.ownBlock = some k → v.ownBlock ≠ some k := fun k e e' => by
    have := (World.ownsRow.lt ho k e).1; have := hBv k e'; omega
  have nw : ∀ {u : Value} {zs : List Int}, Ow .i64 3 w1.heap.size W1 u zs → (∀ k, u.ownBlock = some k → v.ownBlock ≠ some k) → ∀ k, u.ownBlock = some k → v'.ownBlock ≠ some k := fun {u zs} hu hn k e e' => by
    rcases hbk with h | h
    · exact hn k e (h ▸ e')
    · rw [h] at e'; cases e'
      have := (World.ownsRow.lt hu _ e).2; omega
  refine ⟨by simp [h.len], hr, fun i hi => ?_, fun i hi k e => ?_, fun i j hij hj k e e' => ?_, h1.dc.app (fun k e => (World.ownsRow.lt h1.row k e).1) hg⟩
  · simp at hi
    rcases Nat.lt_or_ge i ls.length with hlt | hge
    · rw [e1 i hlt, e2 i hlt]; exact kp (h1.own i hlt) (h.ne i hlt)
    · obtain rfl : i = ls.length := by omega
      rw [e3, e4]; exact kp (ho1.mono hB1) nr
  · simp at hi
    rcases Nat.lt_or_ge i ls.length with hlt | hge
    · rw [e1 i hlt] at e; exact nw (h1.own i hlt) (h.ne i hlt) k e
    · obtain rfl : i = ls.length := by omega
      rw [e3] at e; exact nw (ho1.mono hB1) nr k e
  · simp at hj
    rcases Nat.lt_or_ge j ls.length with hlt | hge
    · rw [e1 i (by omega)] at e; rw [e1 j hlt] at e'; exact h.ap i j hij hlt k e e'
    · obtain rfl : j = ls.length := by omega
      rw [e1 i hij] at e; rw [e3] at e'
      have := hBl i hij k e
      have := (World.ownsRow.lt ho k e').1
      omega
theorem Gd.start {w1 W : World} {g : Nat} {cv : Value} {code : List Int} (h : Dc w1 W g cv code) : Gd w1 (W.alloc (.cells #[] 27)) g cv code (.slice (some ⟨W.heap.size, 0, none⟩) 0 0) [] [] :=
  ⟨rfl, World.ownsRow_lit W #[] 0 h.gr.size (by simp) (by simp), fun i hi => by simp at hi, fun i hi => by simp at hi, fun i j _ hj => by simp at hj, h.below ((Below.refl _ _).alloc (Nat.le_refl _) _)⟩
theorem Gd.blt {w1 W : World} {g : Nat} {cv : Value} {code : List Int} {v : Value} {us : List Value} {ls : List (List Int)} (h : Gd w1 W g cv code v us ls) : (∀ i, i < ls.length → ∀ k, (us.getD i vN).ownBlock = some k → k < W.heap.size) ∧ ∀ k, v.ownBlock = some k → k < W.heap.size :=
  ⟨fun i hi k e => (World.ownsRow.lt (h.own i hi) k e).2, fun k e => (World.ownsRow.lt h.row k e).2⟩
theorem appRow {ops : Array Oper} {rest : List Oper} {o : Oper} {a : Act} {w : World} {Q : Exit → Act → World → Prop} (hgd : o.guard = none) (s x : Operand)
    (ho : o.op = .call { callee := .builtin .append, args := #[s, x], argTypes := #[24, 24] }) (base : Nat) (v : Value) (us : List Value) (hs : a.eval s = v) (hown : w.ownsRow base 27 1 v us.length us)
    (g : Nat) (ad : Option Addr) (n c : Nat) (hx : a.eval x = .slice (some ⟨g, 0, none⟩) 1 1) (hc : w.cell? ⟨g, 0, none⟩ = some (.slice ad n c)) (hl : us.length ≤ 1000000) (hbase : base ≤ w.heap.size)
    (h : ∀ v' w', w'.ownsRow base 27 1 v' (us ++ [Value.slice ad n c]).length (us ++ [Value.slice ad n c]) → w.grownBy w' v.ownBlock → (v'.ownBlock = v.ownBlock ∨ v'.ownBlock = some w.heap.size) → wpList Try.prog ops Q rest (a.put o.dst v') w') : wpList Try.prog ops Q (o :: rest) a w :=
  appV Try.underlying24 toSInfo rfl (by decide) hgd s x ho base v us hs hown g (.slice ad n c) rfl hx hc hl hbase h

end Go.Proofs.Ytikgempdohpdjaa
