/- A statement whose order of evaluation is left open, whose operations read and whose calls make new memory alone: one walk in the order of the text; no condition. -/
import Derived.Test.YtikgempdohpdjaaBase
import Derived.Test.YtikgempdohpdjaaReg
import Derived.Test.YtikgempdohpdjaaMix
import Derived.BigQuiet
import Derived.Deep.AppendLies
namespace Go.Proofs.Ytikgempdohpdjaa
open Go.RowKit Go.ChangeShapes Go.WideShapes Go.ChangeAt
set_option linter.unusedVariables false
set_option linter.unusedSimpArgs false
/-- a world of a kind -/
structure At (S : World → Prop) where
  wd : World
  ok : S wd
/-- a world that has nothing but new blocks more -/
abbrev Ov (w : World) := At (Below w.heap.size w)
theorem ov_cell {w : World} {p : Addr} {v : Value} (h : w.cell? p = some v) (W : Ov w) : W.wd.cell? p = some v := by
  rw [W.ok.cell (block_lt_of_cell h)]; exact h
theorem region_over {P : Program} {id : Nat} {Q : Exit → Act → World → Prop} {a : Act} {w : World} {l : List Oper} (hm : P.follows .mixedOrders = true) (hB : Region.lexB .any l.toArray = true)
    (h : wpQuiet P l.toArray (fun w' => ∃ W : Ov w, w' = W.wd) (fun a' => ∀ w', (∃ W : Ov w, w' = W.wd) → Q .normal a' w') l a) : (Code.region id l.toArray true).wp P Q a w :=
  wp_region_quiet (C := fun w' => ∃ W : Ov w, w' = W.wd) hm hB ⟨⟨w.drew, (Below.refl _ _).drew⟩, rfl⟩ (by simpa using h)
theorem ov_call {P : Program} {f : FuncId} {args : Array Value} {w : World} {W : Ov w} {v : Value}
    (h : Calls P f args W.wd fun e w' => e = .returned v ∧ Below W.wd.heap.size W.wd w') : Calls P f args W.wd fun e w'' => e = .returned v ∧ ∃ W' : Ov w, w'' = W'.wd :=
  h.mono fun e w' ⟨he, hb⟩ => ⟨he, ⟨w', W.ok.trans (hb.mono W.ok.size)⟩, rfl⟩
/-- the rule of the text before, the cells that are read told by S -/
theorem region_mixA {P : Program} {id : Nat} {Q : Exit → Act → World → Prop} {a : Act} {w : World} {l : List Oper} (fl : List Bool) (z m : Nat) (S : World → Prop) (hm : P.follows .mixedOrders = true) (hc : cntF z fl 0 = m) (hB : mixB l.toArray fl z = true) (hQ : ∀ c t v a w, Q (.panic c) (Act.put a (some t) v) w → Q (.panic c) a w) (hS : S w.drew)
    (h : wpQuiet P l.toArray (fun w' => ∃ W : At S, w' = W.wd) (fun a' => wpTail P l.toArray Q S m (selF fl l) a' w.drew) (selT fl l) a) : (Code.region id l.toArray true).wp P Q a w := by
  have e : (fun w' => ∃ W : At S, w' = W.wd) = S := by
    funext w'
    exact propext ⟨fun ⟨W, hW⟩ => hW ▸ W.ok, fun h => ⟨⟨w', h⟩, rfl⟩⟩
  rw [e] at h
  subst hc
  exact region_mix fl z S hm hB hQ hS h
theorem tail_step {P : Program} {ops : Array Oper} {Q : Exit → Act → World → Prop} {S : World → Prop} {m : Nat} {o : Oper} {rest : List Oper} {a : Act} {w : World}
    (h : wpList P ops (fun ex a w => match ex with | .normal => S w ∧ wpTail P ops Q S m rest a w | ex => Q ex a w) [o] a w) : wpTail P ops Q S (m + 1) (o :: rest) a w := h
theorem tail_end {P : Program} {ops : Array Oper} {Q : Exit → Act → World → Prop} {S : World → Prop} {l : List Oper} {a : Act} {w : World} (h : wpList P ops Q l a w) : wpTail P ops Q S 0 l a w := h
theorem blk_same {w : World} {g : Nat} {a b : Array Value} {t t' : TypeId} (h : Blk w g a t) (h' : Blk w g b t') : a = b := by
  rw [Blk, h] at h'; cases h'; rfl
/-- what follows from the making of a slice's value of its row -/
theorem own_form {w : World} {base : Nat} {e : TypeId} {s : Nat} {v : Value} {n : Nat} {xs : List Value} (h : w.ownsRow base e s v n xs) : ∃ a cap, v = .slice a n cap ∧ n ≤ cap ∧ cap ≤ 2 ^ 63 - 1 ∧ (n = 0 ∨ ∃ b, a = some ⟨b, 0, none⟩) := by
  rcases h.2 with ⟨rfl, hn⟩ | ⟨b, cap, cur, rfl, hb, hg, hnc, hcm, -⟩
  · exact ⟨none, 0, by rw [hn], by omega, by omega, .inl hn⟩
  · exact ⟨_, cap, rfl, hnc, hcm, .inr ⟨b, rfl⟩⟩
end Go.Proofs.Ytikgempdohpdjaa
