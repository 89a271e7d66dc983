/- Signals that are carried: the duo stays right, and it ends; no condition. -/
import Derived.Test.YtljejjfhlpjlfaaEvT
namespace Go.Proofs.Ytljejjfhlpjlfaa
open Go.RowKit Go.ChangeShapes Go.WideShapes Go.ChangeAt
set_option linter.unusedVariables false
set_option linter.unusedSimpArgs false
set_option maxRecDepth 8000
theorem mem_ok {c : Int} {ls : Tri} : (∀ k (h : k < ls.length), SgOk c ls[k]) ↔ ∀ x ∈ ls, SgOk c x :=
  ⟨fun h x hx => by obtain ⟨i, hi, rfl⟩ := List.getElem_of_mem hx; exact h i hi, fun h k hk => h _ (List.getElem_mem hk)⟩
def DOt (d : Dt) : Prop := DOk d.1 d.2.1 d.2.2.1 d.2.2.2.1 d.2.2.2.2
theorem dok_list {s c s' c' : Int} {ls ls' : Tri} (h : DOk s c s' c' ls) (hl : ls'.length ≤ 40) (hm : ∀ x ∈ ls', SgOk c x) : DOk s c s' c' ls' :=
  ⟨h.1, h.2.1, h.2.2.1, h.2.2.2.1, h.2.2.2.2.1, h.2.2.2.2.2.1, hl, mem_ok.2 hm⟩
theorem dok_mem {s c s' c' : Int} {ls : Tri} (h : DOk s c s' c' ls) : ∀ x ∈ ls, SgOk c x := mem_ok.1 h.2.2.2.2.2.2.2
theorem dok_snoc {s c s' c' : Int} {ls : Tri} {x : Int × Int × Int} (h : DOk s c s' c' ls) (hl : ls.length ≤ 39) (hx : SgOk c x) : DOk s c s' c' (ls ++ [x]) :=
  dok_list h (by simp; omega) (fun y hy => by
    rcases List.mem_append.1 hy with h1 | h1
    · exact dok_mem h y h1
    · simp at h1; subst h1; exact hx)
theorem dok_erase {s c s' c' : Int} {ls : Tri} (h : DOk s c s' c' ls) (j : Nat) : DOk s c s' c' (ls.eraseIdx j) :=
  dok_list h (by have := h.2.2.2.2.2.2.1; have := List.length_eraseIdx_le ls j; omega) (fun y hy => dok_mem h y (List.mem_of_mem_eraseIdx hy))
theorem dok_arr {s c s' c' : Int} {ls : Tri} {p q r : Int} (h : DOk s c s' c' ls) (hl : ls.length ≤ 39) (hx : SgOk c (p, q, r)) : DOt (arrM (s, c, s', c', ls) p q r) := by
  obtain ⟨a1, a2, a3, a4, a5, a6, a7, a8⟩ := h
  have h : DOk s c s' c' ls := ⟨a1, a2, a3, a4, a5, a6, a7, a8⟩
  obtain ⟨hp, hq, hr⟩ := hx
  simp at hp hq hr
  have hm := dok_mem h
  unfold arrM
  split
  · -- a seizure
    unfold seizM
    split
    · exact h
    split
    · rename_i h1
      simp at h1
      exact ⟨a1, a2, by simp, by simp, a5, ⟨hr.1, hr.2⟩, a7, a8⟩
    split
    · exact h
    split
    · exact dok_snoc h hl ⟨by simp, by simp, a6⟩
    split
    · exact dok_snoc h hl ⟨by simp, by simp, a6⟩
    · exact h
  split
  · split
    · exact ⟨by simp, by simp, a3, a4, a5, a6, a7, a8⟩
    · exact h
  split
  · split
    · have hs := dok_snoc (x := (1 - 0, 4, r)) h hl ⟨by simp, by simp, hr⟩
      split
      · rename_i h1
        simp at h1
        obtain rfl : r = c := by omega
        exact ⟨by simp, by simp, hs.2.2.1, hs.2.2.2.1, hs.2.2.2.2.1, hs.2.2.2.2.2.1, hs.2.2.2.2.2.2.1, hs.2.2.2.2.2.2.2⟩
      · exact hs
    · have hs := dok_snoc (x := (1 - 1, 4, r)) h hl ⟨by simp, by simp, hr⟩
      split
      · exact ⟨hs.1, hs.2.1, by simp, by simp, hs.2.2.2.2.1, hr, hs.2.2.2.2.2.2.1, hs.2.2.2.2.2.2.2⟩
      · exact hs
  split
  · split
    · exact ⟨by simp, by simp, a3, a4, a5, a6, a7, a8⟩
    · exact h
  · split
    · exact ⟨a1, a2, by simp, by simp, a5, a6, a7, a8⟩
    · exact h
/-- how far signals are from being carried -/
def wt1 (q : Int) : Nat := if q = 1 then 3 else if q = 3 then 2 else 1
def wtL : Tri → Nat
  | [] => 0
  | x :: r => wt1 x.2.1 + wtL r
theorem wtL_app : ∀ a b : Tri, wtL (a ++ b) = wtL a + wtL b
  | [], b => by simp [wtL]
  | x :: r, b => by simp [wtL, wtL_app r b]; omega
theorem wt_arr (s c s' c' : Int) (ls : Tri) (p q r : Int) (hq0 : 1 ≤ q) (hq1 : q ≤ 4) : wtL (arrM (s, c, s', c', ls) p q r).2.2.2.2 < wtL ls + wt1 q := by
  unfold arrM
  split
  · rename_i h; subst h
    unfold seizM
    repeat' split
    all_goals simp [wtL_app, wtL, wt1]
  split
  · rename_i h1 h; subst h
    split <;> simp [wt1]
  split
  · rename_i h1 h2 h; subst h
    repeat' split
    all_goals simp [wtL_app, wtL, wt1]
  · rename_i h1 h2 h3
    obtain rfl : q = 4 := by omega
    repeat' split
    all_goals simp [wt1]
/-- the first signal is carried -/
theorem way0 (s c s' c' : Int) (x : Int × Int × Int) (ls : Tri) : wayM (s, c, s', c', x :: ls) 5 0 = arrM (s, c, s', c', ls) x.1 x.2.1 x.2.2 := by simp [wayM]
theorem dok_way0 {s c s' c' : Int} {x : Int × Int × Int} {ls : Tri} (h : DOk s c s' c' (x :: ls)) : DOt (wayM (s, c, s', c', x :: ls) 5 0) ∧ wtL (wayM (s, c, s', c', x :: ls) 5 0).2.2.2.2 < wtL (x :: ls) := by
  have hx := dok_mem h x (by simp)
  have hl := h.2.2.2.2.2.2.1
  simp at hl
  have h' : DOk s c s' c' ls := dok_list h (by omega) (fun y hy => dok_mem h y (by simp [hy]))
  rw [way0]
  refine ⟨dok_arr h' (by omega) hx, ?_⟩
  have := wt_arr s c s' c' ls x.1 x.2.1 x.2.2 hx.2.1.1 hx.2.1.2
  simp only [wtL]; omega
/-- so many signals carried -/
def itN : Nat → Dt → Dt
  | 0, d => d
  | m + 1, d => wayM (itN m d) 5 0
/-- all signals are carried -/
def Car (d d' : Dt) : Prop := d'.2.2.2.2 = [] ∧ ∃ m, itN m d = d' ∧ ∀ j, j < m → (itN j d).2.2.2.2 ≠ []
theorem Car.same {d a b : Dt} (h : Car d a) (h' : Car d b) : a = b := by
  obtain ⟨e1, m, h1, h2⟩ := h
  obtain ⟨e2, n, h3, h4⟩ := h'
  have : m = n := by
    rcases Nat.lt_trichotomy m n with hlt | rfl | hlt
    · exact absurd (by rw [h1]; exact e1) (h4 m hlt)
    · rfl
    · exact absurd (by rw [h3]; exact e2) (h2 n hlt)
  subst this
  rw [← h1, ← h3]
end Go.Proofs.Ytljejjfhlpjlfaa
