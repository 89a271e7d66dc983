/- Whether a panel is a right one can be decided; what ops one after another leave of a panel, and their answers; no condition. -/
import Derived.Test.YtcbeaimpmjljjaaDo
import Derived.Test.YtcbeaimpmjljjaaRegB
namespace Go.Proofs.Ytcbeaimpmjljjaa
open Go.RowKit Go.ChangeShapes Go.WideShapes Go.ChangeAt
set_option linter.unusedVariables false
set_option linter.unusedSimpArgs false
instance decCallOk (c : Bool × List (Int × Bool)) : Decidable (CallOk c) := by unfold CallOk; infer_instance
instance decSeenOk (n : Int) (l : List Int) : Decidable (SeenOk n l) := by unfold SeenOk; infer_instance
instance decPOk (n : Int) (cs : Calls2) : Decidable (POk n cs) := by unfold POk; infer_instance
def doP (n : Int) (cs : Calls2) (o : Int × Int × Int) : Calls2 × Int := doM (decide (POk n cs)) n cs o.1 o.2.1 o.2.2
def runP (n : Int) : Calls2 → List (Int × Int × Int) → Calls2 × List Int
  | cs, [] => (cs, [])
  | cs, o :: r => ((runP n (doP n cs o).1 r).1, (doP n cs o).2 :: (runP n (doP n cs o).1 r).2)
theorem runP_snoc (n : Int) : ∀ (cs : Calls2) (l : List (Int × Int × Int)) (o : Int × Int × Int), runP n cs (l ++ [o]) = ((doP n (runP n cs l).1 o).1, (runP n cs l).2 ++ [(doP n (runP n cs l).1 o).2])
  | cs, [], o => by simp [runP]
  | cs, x :: r, o => by
    have := runP_snoc n (doP n cs x).1 r o
    simp [runP, this]
theorem runP_len (n : Int) : ∀ (cs : Calls2) (l : List (Int × Int × Int)), (runP n cs l).2.length = l.length
  | cs, [] => rfl
  | cs, x :: r => by simp [runP, runP_len n _ r]
theorem doP_c (n : Int) (v : Value) (cs : Calls2) (o : Int × Int × Int) (w : World) (h : RdC w v cs) (hn : cs.length ≤ 4194304) (hm : ∀ c ∈ cs, c.2.length ≤ 4194304) :
   Calls Try.prog 19 #[.agg #[.int .i64 n, v], .agg #[.int .i64 o.1, .int .i64 o.2.1, .int .i64 o.2.2]] w (PanR n w.heap.size w (doP n cs o)) := by
  refine (do_c n v cs o.1 o.2.1 o.2.2 w h hn hm).mono ?_
  rintro e w' ⟨ok, hok, hp⟩
  have e : ok = decide (POk n cs) := by
    cases ok
    · have : ¬ POk n cs := fun h => by have := hok.2 h; cases this
      rw [decide_eq_false this]
    · rw [decide_eq_true (hok.1 rfl)]
  rw [e] at hp
  exact hp
/-- what is no panel stays as it is -/
theorem doP_bad {n : Int} {cs : Calls2} (h : ¬ POk n cs) (o : Int × Int × Int) : doP n cs o = (cs, 1) := by
  rw [doP, decide_eq_false h, doM, if_pos (.inl rfl)]
end Go.Proofs.Ytcbeaimpmjljjaa
