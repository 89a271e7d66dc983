/- What Gain15 tells; no condition. -/
import Derived.Test.YtomgdlnpajfjhaaReg5
import Derived.Test.YtomgdlnpajfjhaaMai
import Derived.Test.YtomgdlnpajfjhaaMam
import Derived.Test.YtomgdlnpajfjhaaQu6
namespace Go.Proofs.Ytomgdlnpajfjhaa
open Go.RowKit Go.ChangeShapes Go.WideShapes Go.ChangeAt
set_option linter.unusedVariables false
set_option linter.unusedSimpArgs false
set_option maxRecDepth 8000

theorem fv_lt (op : BinOp) (x y : Nat) (w : World) : fv op .f64 x y w < 2 ^ 64 := by
  unfold fv
  cases h : floatBits op .f64 x y with
  | some r =>
    have := floatBits_wf h
    simpa [Lit.wf] using this
  | none =>
    simp only [Option.getD_none, Question.cut]
    generalize w.tape w.drawn (.nanBits .f64 x y) = t
    omega
theorem wv_lt (b : Nat) (w : World) : wv b w < 2 ^ 64 := by
  unfold wv
  split
  · simp only [Question.cut]
    generalize w.tape w.drawn (.nanConv .f64 b) = t
    omega
  · have := encode_wf .f64 (FloatKind.f32.decode b)
    simpa [Lit.wf, wid] using this
theorem Rg.sub {α : Type} {n : Nat} {c : α → List Value} {w : World} {b off cap m : Nat} {ls : List α} (h4 : ∀ i (h : i < ls.length), w.rangeAt b (off + i * n) (c ls[i])) (hc : ls.length ≤ cap) (hm : cap ≤ maxLen) (j k : Nat) (hk : j + k ≤ ls.length) (hmm : m = cap - j) :
    Rg n c w (.slice (some ⟨b, off + j * n, none⟩) k m) ((ls.drop j).take k) := by
  have hl : ((ls.drop j).take k).length = k := by simp; omega
  refine ⟨some ⟨b, off + j * n, none⟩, m, by rw [hl], by omega, by omega, .inr ⟨b, off + j * n, rfl, fun i hi => ?_⟩⟩
  have := h4 (j + i) (by omega)
  rw [Nat.add_mul, ← Nat.add_assoc] at this
  rw [List.getElem_take, List.getElem_drop]
  exact this
def c52 : Nat := 4632515166703976448
theorem fc52 : fc .f64 4632515166703976448 = some c52 := fc_some (by decide +kernel)
/-- may Gain15 be asked? -/
def gnB (ls : List (Nat × Nat)) : Bool := decide (27 ≤ (ls.length : Int)) && decide ((ls.length : Int) ≤ 200)
def gnH (ls : List (Nat × Nat)) : Nat := (ls.length - 26) / 2
/-- the samples at the training's place -/
def gnS (ls : List (Nat × Nat)) : List (Nat × Nat) := (ls.drop (gnH ls)).take 26
def gnF (f : Nat → Nat → Nat → Nat → Option Nat) (ls : List (Nat × Nat)) : Option Nat := if gnB ls = true then fo .quo .f64 (mtF f (gnS ls) trL 26) (some c52) else some 0
def GnR (ls : List (Nat × Nat)) (w : World) (e : Ending) (w' : World) : Prop := ∃ u q, e = .returned (.tuple #[.agg #[.float .f64 u, .float .f64 q], .bool (gnB ls)]) ∧ fc .f64 u = gnF pXR ls ∧ fc .f64 q = gnF pXI ls ∧ (u < 2 ^ 64 ∧ q < 2 ^ 64) ∧ Below w.heap.size w w'
theorem gnS_len {ls : List (Nat × Nat)} (h : 27 ≤ ls.length) : (gnS ls).length = 26 := by unfold gnS gnH; simp; omega
theorem gnS_B {ls : List (Nat × Nat)} (h : 27 ≤ ls.length) : mtB (gnS ls) trL = true ∧ mtN (gnS ls) trL = 26 := by
  have e : mtB (gnS ls) trL = true := by unfold mtB; rw [gnS_len h, trL_len]; rfl
  exact ⟨e, by unfold mtN; rw [e, if_pos rfl, gnS_len h]⟩

end Go.Proofs.Ytomgdlnpajfjhaa
