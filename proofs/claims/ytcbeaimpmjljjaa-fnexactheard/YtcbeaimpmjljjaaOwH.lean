/- Whole numbers owned between two bounds; how far the marks of a panel go; no condition. -/
import Derived.Test.YtcbeaimpmjljjaaMark
import Derived.Test.YtcbeaimpmjljjaaOk
namespace Go.Proofs.Ytcbeaimpmjljjaa
open Go.RowKit Go.ChangeShapes Go.WideShapes Go.ChangeAt
set_option linter.unusedVariables false
set_option linter.unusedSimpArgs false
def OwH (base hi : Nat) (w : World) (v : Value) (zs : List Int) : Prop := Ow .i64 3 base w v zs ∧ ∀ k, v.ownBlock = some k → k < hi
theorem Ow.toH {base : Nat} {w : World} {v : Value} {zs : List Int} (h : Ow .i64 3 base w v zs) : OwH base w.heap.size w v zs := ⟨h, fun k e => (World.ownsRow.lt h k e).2⟩
theorem OwH.below {base hi : Nat} {w w' : World} {v : Value} {zs : List Int} (h : OwH base hi w v zs) (hb : Below w.heap.size w w') : OwH base hi w' v zs := ⟨h.1.below hb, h.2⟩
theorem OwH.mid {base hi lo' hi' : Nat} {w w' : World} {v : Value} {zs : List Int} (h : OwH base hi w v zs) (hm : Mid lo' hi' w w') (ho : hi ≤ lo' ∨ hi' ≤ base) : OwH base hi w' v zs :=
  ⟨ownsRow_mid h.1 hm (fun k e => by have := h.2 k e; have := (World.ownsRow.lt h.1 k e).1; omega), h.2⟩
theorem OwH.rd {base hi : Nat} {w : World} {v : Value} {zs : List Int} (h : OwH base hi w v zs) : Rd .i64 w v zs := h.1.rd
theorem mkEnd_val (cs : Calls2) (q : Int) : ∀ j, j ≤ cs.length → mkEnd q (cs.take j) = q + j + 2 * legsTo cs j
  | 0, _ => by simp [mkEnd, legsTo]
  | j + 1, h => by
    have ih := mkEnd_val cs q j (by omega)
    rw [List.take_succ_eq_append_getElem (by omega), (mkCs_snoc _ _ _).2, ih]
    simp [legsTo, List.getElem?_eq_getElem (show j < cs.length by omega)]
    omega
theorem mkEnd_lft {cs : Calls2} (h : 0 ≤ lft 1048576 (cs.length + legsTo cs cs.length)) : mkEnd 1 cs ≤ 4194304 := by
  have h1 : cs.length + legsTo cs cs.length ≤ 1048576 := by
    unfold lft at h
    split at h <;> omega
  have := mkEnd_val cs 1 cs.length (Nat.le_refl _)
  rw [List.take_length] at this
  omega
/-- a mark of numbers, as a change between two bounds -/
theorem markH (v : Value) (zs : List Int) (q : Int) (base hi : Nat) (w : World) (h : OwH base hi w v zs) (h0 : 0 ≤ q) (hq : q + zs.length ≤ 1152921504606846976) :
   Calls Try.prog 43 #[v, .int .i64 q] w fun e w' => e = .returned (.int .i64 (q + zs.length)) ∧ OwH base hi w' v (marks .i64 q zs.length) ∧ Mid base hi w w' :=
  (markI v zs q base w h.1 h0 hq).mono fun e w' ⟨he, ho, hg⟩ => ⟨he, ⟨ho, h.2⟩, Mid.ofGrown hg fun k e => ⟨(World.ownsRow.lt h.1 k e).1, h.2 k e⟩⟩
end Go.Proofs.Ytcbeaimpmjljjaa
