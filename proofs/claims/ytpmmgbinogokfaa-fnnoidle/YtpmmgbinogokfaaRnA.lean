/- RunDesk's mathematics, and a run at work; no condition. -/
import Derived.Test.YtpmmgbinogokfaaDoM
import Derived.Test.YtpmmgbinogokfaaDoI
namespace Go.Proofs.Ytpmmgbinogokfaa
open Go.RowKit Go.ChangeShapes Go.WideShapes Go.ChangeAt
set_option linter.unusedVariables false
set_option linter.unusedSimpArgs false
set_option maxRecDepth 8000
/-- a desk as it stands: its tick, its Given, agents and queue -/
abbrev Ds := Int × Int × List Ag × List Wt
def stp (d : Ds) (o : Do) : Ds × List Int × Int := doF d.1 d.2.1 d.2.2.1 d.2.2.2 o.1 o.2.1 o.2.2.1 o.2.2.2.1 o.2.2.2.2
/-- the desk, the calls and the codes behind the first k ops -/
def rnT (d : Ds) (os : List Do) : Nat → Ds × List Int × List Int
  | 0 => (d, [], [])
  | k + 1 => match os[k]? with
    | none => rnT d os k
    | some o => ((stp (rnT d os k).1 o).1, (rnT d os k).2.1 ++ (stp (rnT d os k).1 o).2.1, (rnT d os k).2.2 ++ [(stp (rnT d os k).1 o).2.2])
theorem rnT_succ (d : Ds) (os : List Do) (k : Nat) (h : k < os.length) : rnT d os (k + 1) = ((stp (rnT d os k).1 os[k]).1, (rnT d os k).2.1 ++ (stp (rnT d os k).1 os[k]).2.1, (rnT d os k).2.2 ++ [(stp (rnT d os k).1 os[k]).2.2]) := by
  rw [rnT, List.getElem?_eq_getElem h]
theorem stp_bd (d : Ds) (o : Do) : (stp d o).1.2.2.1.length = d.2.2.1.length ∧ ((stp d o).1.2.2.2.length ≤ d.2.2.2.length ∨ (stp d o).1.2.2.2.length ≤ 40) ∧ (stp d o).2.1.length ≤ 12 := by
  unfold stp doF
  split
  · rename_i h
    split
    · simp
    · rename_i gs1 qs1 hb
      have hbo := beg_ok hb h.1.2.2.2.2.1.sk h.1.ca (opB_kind h.2).2.1 (opB_kind h.2).2.2
      have hl := giveN_len o.2.1 d.2.2.1.length gs1 qs1 hbo.2.1
      have h12 : d.2.2.1.length ≤ 12 := by have := h.1; unfold DkOk at this; omega
      split
      · simp
      · refine ⟨?_, ?_, ?_⟩ <;> dsimp only <;> omega
  · simp
theorem rnT_bd (d : Ds) (os : List Do) : ∀ k, k ≤ os.length → (rnT d os k).1.2.2.1.length = d.2.2.1.length ∧ ((rnT d os k).1.2.2.2.length ≤ d.2.2.2.length ∨ (rnT d os k).1.2.2.2.length ≤ 40) ∧ (rnT d os k).2.1.length ≤ 12 * k ∧ (rnT d os k).2.2.length = k
  | 0, _ => by simp [rnT]
  | k + 1, h => by
    have ih := rnT_bd d os k (by omega)
    have hs := stp_bd (rnT d os k).1 os[k]
    rw [rnT_succ d os k (by omega)]
    simp only [List.length_append, List.length_singleton]
    omega
/-- what RunDesk tells -/
def rnF (d : Ds) (os : List Do) : Ds × List Int × List Int := if 200 < os.length then ((0, 0, [], []), [], []) else rnT d os os.length
def RnR (w : World) (r : Ds × List Int × List Int) (e : Ending) (w' : World) : Prop :=
  ∃ va vq vg vc, e = .returned (.tuple #[.agg (D4 r.1.1 va vq r.1.2.1), vg, vc]) ∧ OwD w.heap.size w' va vq r.1.2.2.1 r.1.2.2.2 ∧ Ow .i64 3 w.heap.size w' vg r.2.1 ∧ Ow .i64 3 w.heap.size w' vc r.2.2 ∧ Apart vg vc ∧ Below w.heap.size w w'
/-- a run at work: the desk in its box, the result's cell, the calls, the codes -/
structure Rs (P : Nat) (w W : World) (n g : Int) (va vq : Value) (gs : List Ag) (qs : List Wt) (vg vc : Value) (gv cs : List Int) : Prop where
  hP : w.heap.size = P
  box : Blk W P (D4 n va vq g) 27
  res : Blk W (P + 1) (D4 0 (.slice none 0 0) (.slice none 0 0) 0) 27
  own : OwD (P + 2) W va vq gs qs
  gvo : Ow .i64 3 (P + 2) W vg gv
  cdo : Ow .i64 3 (P + 2) W vc cs
  ap : Apart vg vc
  bel : Below P w W
theorem Rs.below {P : Nat} {w W W' : World} {n g : Int} {va vq : Value} {gs : List Ag} {qs : List Wt} {vg vc : Value} {gv cs : List Int} (h : Rs P w W n g va vq gs qs vg vc gv cs) (hb : Below W.heap.size W W') : Rs P w W' n g va vq gs qs vg vc gv cs :=
  ⟨h.hP, h.box.below hb h.box.lt, h.res.below hb h.res.lt, h.own.below hb, h.gvo.below hb, h.cdo.below hb, h.ap, belowCall h.bel hb (Nat.le_of_lt h.box.lt)⟩
/-- a row of one type is not written where a block of another type is -/
theorem Ow.off {k : IntKind} {e : TypeId} {base : Nat} {W W' : World} {v : Value} {zs : List Int} {P : Nat} {cs : Array Value} {t : TypeId} (h : Ow k e base W v zs) (hb : Blk W P cs t) (hne : e ≠ t) (hg : W.grownBy W' (some P)) : Ow k e base W' v zs :=
  World.ownsRow.kept h hg (.inr (row_blk h hb hne))
theorem OwD.off {base : Nat} {W W' : World} {va vq : Value} {gs : List Ag} {qs : List Wt} {P : Nat} {cs : Array Value} (h : OwD base W va vq gs qs) (hb : Blk W P cs 27) (hg : W.grownBy W' (some P)) : OwD base W' va vq gs qs :=
  ⟨World.ownsRow.kept h.1 hg (.inr (row_blk h.1 hb (by decide))), World.ownsRow.kept h.2.1 hg (.inr (row_blk h.2.1 hb (by decide))), h.2.2⟩
theorem OwD.offI {base base' : Nat} {W W' : World} {va vq v : Value} {gs : List Ag} {qs : List Wt} {zs : List Int} (h : OwD base W va vq gs qs) (ho : Ow .i64 3 base' W v zs) (hg : W.grownBy W' v.ownBlock) : OwD base W' va vq gs qs :=
  ⟨World.ownsRow.kept h.1 hg (row_ne h.1 ho (by decide)), World.ownsRow.kept h.2.1 hg (row_ne h.2.1 ho (by decide)), h.2.2⟩
theorem Blk.offI {base' : Nat} {W W' : World} {v : Value} {zs : List Int} {P : Nat} {cs : Array Value} (h : Blk W P cs 27) (ho : Ow .i64 3 base' W v zs) (hg : W.grownBy W' v.ownBlock) : Blk W' P cs 27 := by
  have hne := row_blk ho h (by decide)
  rw [Blk, hg.block P h.lt (Ne.symm hne)]; exact h
theorem grow4 (W : World) (P : Nat) (a b c d : Value) : W.grownBy ((((W.setCell ⟨P, 0, none⟩ a).setCell ⟨P, 1, none⟩ b).setCell ⟨P, 2, none⟩ c).setCell ⟨P, 3, none⟩ d) (some P) := grown_trans (grown_trans (grown_trans (grown_set' _ _ _ _) (grown_set' _ _ _ _)) (grown_set' _ _ _ _)) (grown_set' _ _ _ _)
/-- another desk put into the box -/
theorem Rs.put {P : Nat} {w W : World} {n g : Int} {va vq : Value} {gs : List Ag} {qs : List Wt} {vg vc : Value} {gv cs : List Int} (h : Rs P w W n g va vq gs qs vg vc gv cs) {n' g' : Int} {va' vq' : Value} {gs' : List Ag} {qs' : List Wt} (ho : OwD (P + 2) W va' vq' gs' qs') :
    Rs P w ((((W.setCell ⟨P, 0, none⟩ (.int .i64 n')).setCell ⟨P, 1, none⟩ va').setCell ⟨P, 2, none⟩ vq').setCell ⟨P, 3, none⟩ (.int .i64 g')) n' g' va' vq' gs' qs' vg vc gv cs := by
  have gf := grow4 W P (.int .i64 n') va' vq' (.int .i64 g')
  refine ⟨h.hP, (((h.box.set 0 _).set 1 _).set 2 _).set 3 _, ?_, ho.off h.box gf, h.gvo.off h.box (by decide) gf, h.cdo.off h.box (by decide) gf, h.ap, h.bel.trans (grown_below gf (Nat.le_of_lt h.box.lt) (fun k e => by cases e; exact Nat.le_refl _))⟩
  rw [Blk, gf.block _ h.res.lt (by simp)]; exact h.res
/-- what stays where only the row of the codes is written -/
theorem Rs.codes {P : Nat} {w W W' : World} {n g : Int} {va vq : Value} {gs : List Ag} {qs : List Wt} {vg vc : Value} {gv cs : List Int} (h : Rs P w W n g va vq gs qs vg vc gv cs) {vc' : Value} {cs' : List Int} (hg : W.grownBy W' vc.ownBlock) (ho : Ow .i64 3 (P + 2) W' vc' cs') (hv : vc'.ownBlock = vc.ownBlock ∨ vc'.ownBlock = some W.heap.size) :
    Rs P w W' n g va vq gs qs vg vc' gv cs' := by
  refine ⟨h.hP, h.box.offI h.cdo hg, h.res.offI h.cdo hg, h.own.offI h.cdo hg, World.ownsRow.kept h.gvo hg ?_, ho, ?_, h.bel.trans (grown_below hg (Nat.le_of_lt h.box.lt) (fun k e => by have := (World.ownsRow.lt h.cdo k e).1; omega))⟩
  · cases hx : vg.ownBlock with
    | none => exact .inl rfl
    | some k => exact .inr (fun e => h.ap k hx e.symm)
  · intro k hk e
    rcases hv with hv | hv
    · exact h.ap k hk (hv ▸ e)
    · rw [hv] at e; cases e; have := (World.ownsRow.lt h.gvo _ hk).2; omega
theorem Rs.calls {P : Nat} {w W W' : World} {n g : Int} {va vq : Value} {gs : List Ag} {qs : List Wt} {vg vc : Value} {gv cs : List Int} (h : Rs P w W n g va vq gs qs vg vc gv cs) {vg' : Value} {gv' : List Int} (hg : W.grownBy W' vg.ownBlock) (ho : Ow .i64 3 (P + 2) W' vg' gv') (hv : vg'.ownBlock = vg.ownBlock ∨ vg'.ownBlock = some W.heap.size) :
    Rs P w W' n g va vq gs qs vg' vc gv' cs := by
  refine ⟨h.hP, h.box.offI h.gvo hg, h.res.offI h.gvo hg, h.own.offI h.gvo hg, ho, World.ownsRow.kept h.cdo hg ?_, ?_, h.bel.trans (grown_below hg (Nat.le_of_lt h.box.lt) (fun k e => by have := (World.ownsRow.lt h.gvo k e).1; omega))⟩
  · cases hx : vc.ownBlock with
    | none => exact .inl rfl
    | some k => exact .inr (fun e => h.ap k e.symm hx)
  · intro k hk e
    rcases hv with hv | hv
    · exact h.ap k (hv ▸ hk) e
    · rw [hv] at hk; cases hk; have := (World.ownsRow.lt h.cdo _ e).2; omega
/-- the end: the desk handed on into the result's cell -/
theorem Rs.fin {P : Nat} {w W : World} {n g : Int} {va vq : Value} {gs : List Ag} {qs : List Wt} {vg vc : Value} {gv cs : List Int} (h : Rs P w W n g va vq gs qs vg vc gv cs) {r : Ds × List Int × List Int} (hr : r = ((n, g, gs, qs), gv, cs)) :
    Blk ((((W.setCell ⟨P + 1, 0, none⟩ (.int .i64 n)).setCell ⟨P + 1, 1, none⟩ va).setCell ⟨P + 1, 2, none⟩ vq).setCell ⟨P + 1, 3, none⟩ (.int .i64 g)) (P + 1) (D4 n va vq g) 27 ∧
    RnR w r (.returned (.tuple #[.agg (D4 n va vq g), vg, vc])) ((((W.setCell ⟨P + 1, 0, none⟩ (.int .i64 n)).setCell ⟨P + 1, 1, none⟩ va).setCell ⟨P + 1, 2, none⟩ vq).setCell ⟨P + 1, 3, none⟩ (.int .i64 g)) := by
  subst hr
  have hP := h.hP
  have gf := grow4 W (P + 1) (.int .i64 n) va vq (.int .i64 g)
  refine ⟨(((h.res.set 0 _).set 1 _).set 2 _).set 3 _, va, vq, vg, vc, rfl, ?_, ?_, ?_, h.ap, ?_⟩
  · exact (h.own.off h.res gf).mono (by omega)
  · exact (h.gvo.off h.res (by decide) gf).mono (by omega)
  · exact (h.cdo.off h.res (by decide) gf).mono (by omega)
  · rw [hP]; exact h.bel.trans (grown_below gf (by have := h.box.lt; omega) (fun k e => by cases e; omega))
end Go.Proofs.Ytpmmgbinogokfaa
