/- How long the calls of a panel and their legs can be behind an op; no condition. -/
import Derived.Test.YtcbeaimpmjljjaaPLen
namespace Go.Proofs.Ytcbeaimpmjljjaa
open Go.RowKit Go.ChangeShapes Go.WideShapes Go.ChangeAt
set_option linter.unusedVariables false
set_option linter.unusedSimpArgs false
def Lim (m b : Nat) (l : Calls2) : Prop := l.length ≤ m ∧ ∀ c ∈ l, c.2.length ≤ b
theorem Lim.set {m b : Nat} {l : Calls2} (h : Lim m b l) (i : Nat) (c : Bool × Legs2) (hc : c.2.length ≤ b) : Lim m b (l.set i c) :=
  ⟨by simpa using h.1, fun d hd => by
    rcases List.mem_or_eq_of_mem_set hd with hd | rfl
    · exact h.2 d hd
    · exact hc⟩
theorem Lim.erase {m b : Nat} {l : Calls2} (h : Lim m b l) (i : Nat) : Lim m b (l.eraseIdx i) :=
  ⟨Nat.le_trans (List.length_eraseIdx_le _ _) h.1, fun d hd => h.2 d (List.mem_of_mem_eraseIdx hd)⟩
theorem Lim.lsAt {m b : Nat} {l : Calls2} (h : Lim m b l) (i : Nat) : (lsAt l i).length ≤ b := by
  by_cases hi : i < l.length
  · rw [lsAt_eq hi]; exact h.2 _ (List.getElem_mem hi)
  · rw [Go.Proofs.Ytcbeaimpmjljjaa.lsAt, List.getD_eq_getElem?_getD, List.getElem?_eq_none (by omega)]; simp
theorem Lim.mono {m b m' b' : Nat} {l : Calls2} (h : Lim m b l) (hm : m ≤ m') (hb : b ≤ b') : Lim m' b' l := ⟨by have := h.1; omega, fun c hc => by have := h.2 c hc; omega⟩
theorem leaveM_lim {m b : Nat} {l : Calls2} (h : Lim m b l) (i : Nat) (p : Bool) (ls : Legs2) (hl : ls.length ≤ b) : Lim m b (leaveM l i p ls) := by
  unfold leaveM
  split
  · exact (h.set _ _ hl).erase _
  · exact h.set _ _ hl
theorem joinM_lim {l : Calls2} (h : Lim 40 8 l) (a b : Int) : Lim 41 9 (joinM l a b).1 := by
  have h' : Lim 41 9 l := h.mono (by omega) (by omega)
  unfold joinM
  split
  · refine ⟨by have := h.1; simp; omega, fun c hc => ?_⟩
    rcases List.mem_append.1 hc with hc | hc
    · exact h'.2 c hc
    · simp at hc; subst hc; simp
  · rename_i i _ _
    have := h.lsAt i
    split
    · exact h'
    · exact h'.set _ _ (by simp; omega)
  · rename_i k _ _
    have := h.lsAt k
    split
    · exact h'
    · exact h'.set _ _ (by simp; omega)
  · split
    · exact h'
    · split
      · exact h'
      · exact (h'.set _ _ (by simp; omega)).erase _
theorem pickM_lim {l : Calls2} (h : Lim 40 8 l) (a : Int) : Lim 41 9 (pickM l a).1 := by
  have h' : Lim 41 9 l := h.mono (by omega) (by omega)
  unfold pickM
  split
  · exact h'
  · split
    · exact h'
    · rename_i i _
      have : ((l.getD i (false, [])).2).length ≤ 8 := h.lsAt i
      split
      · exact h'
      · exact h'.set _ _ (by simp only [List.length_append, List.length_cons, List.length_nil]; omega)
theorem doM_lim {l : Calls2} (h : Lim 40 8 l) (ok : Bool) (n k a b : Int) : Lim 41 9 (doM ok n l k a b).1 := by
  have h' : Lim 41 9 l := h.mono (by omega) (by omega)
  unfold doM
  split
  · exact h'
  split
  · split
    · exact h'
    · exact joinM_lim h a b
  split
  · exact h'
  split
  · exact pickM_lim h a
  split
  · exact h'
  · rename_i i _
    have := h'.lsAt i
    split
    · exact leaveM_lim h' _ _ _ (Nat.le_trans (List.length_eraseIdx_le _ _) this)
    split
    · exact leaveM_lim h' _ _ _ (Nat.le_trans (List.length_eraseIdx_le _ _) this)
    split
    · exact h'
    · exact h'.set _ _ (by simpa using this)
theorem doP_lim {m b : Nat} {l : Calls2} (h : Lim m b l) (hm : 41 ≤ m) (hb : 9 ≤ b) (n : Int) (o : Int × Int × Int) : Lim m b (doP n l o).1 := by
  by_cases hp : POk n l
  · exact (doM_lim hp.len _ _ _ _ _).mono hm hb
  · rw [doP_bad hp]; exact h
theorem runP_lim {m b : Nat} (hm : 41 ≤ m) (hb : 9 ≤ b) (n : Int) : ∀ (os : List (Int × Int × Int)) (l : Calls2), Lim m b l → Lim m b (runP n l os).1
  | [], l, h => h
  | o :: r, l, h => runP_lim hm hb n r _ (doP_lim h hm hb n o)
end Go.Proofs.Ytcbeaimpmjljjaa
