/- What DoDesk answers; no condition. -/
import Derived.Test.YtpmmgbinogokfaaAsd
namespace Go.Proofs.Ytpmmgbinogokfaa
open Go.RowKit Go.ChangeShapes Go.WideShapes Go.ChangeAt
set_option linter.unusedVariables false
set_option linter.unusedSimpArgs false
set_option maxRecDepth 8000
theorem results_D3 {fn : Func} {p u v : Tmp} (h : fn.results = #[.cell p 27, .tmp u, .tmp v]) (tmps : Array Value) (w : World) (g : Nat) (n : Int) (va vq : Value) (gg : Int) (x y : Value)
    (hp : tmps.getD p undef = .pointer (some ⟨g, 0, none⟩)) (hx : tmps.getD u undef = x) (hy : tmps.getD v undef = y) (hg : Blk w g (D4 n va vq gg) 27) :
    (results fn tmps).run Try.prog w = .ok (.tuple #[.agg (D4 n va vq gg), x, y]) w := by
  have hp' : tmps[p]?.getD undef = .pointer (some ⟨g, 0, none⟩) := by simpa using hp
  have hx' : tmps[u]?.getD undef = x := by simpa using hx
  have hy' : tmps[v]?.getD undef = y := by simpa using hy
  have hr := run_loadVar_row (P := Try.prog) w g 27 27 (D4 n va vq gg) (0, 0) _ hg Try.underlying27 rfl sizeDk
  simp [results, h, hp', hx', hy', asAddr, hr]
/-- what DoDesk answers: a desk and calls of its own, and a code -/
def DdR (w : World) (r : (Int × Int × List Ag × List Wt) × List Int × Int) (e : Ending) (w' : World) : Prop :=
  ∃ va' vq' vc', e = .returned (.tuple #[.agg (D4 r.1.1 va' vq' r.1.2.1), vc', .int .i64 r.2.2]) ∧ OwD w.heap.size w' va' vq' r.1.2.2.1 r.1.2.2.2 ∧ Ow .i64 3 w.heap.size w' vc' r.2.1 ∧ (∀ k, vc'.ownBlock = some k → ¬ InD va' vq' k) ∧ Below w.heap.size w w'
theorem AgsOk.bz {n : Int} {gs : List Ag} (h : AgsOk n gs) : BzOk gs := fun x hx => (agB_bz (((ags_iff n gs).1 h).1 x hx)).1
theorem beg_ok {t : Int} {gs gs1 : List Ag} {qs qs1 : List Wt} {k a s p : Int} (h : beg t gs qs k a s p = some (gs1, qs1)) (hs : SkOk gs) (hc : CaOk qs) (ha : k = 1 → 0 ≤ a) (hk : k ≠ 1 ∧ k ≠ 2 ∧ k ≠ 3 → 0 ≤ s ∧ s ≤ 255) : SkOk gs1 ∧ CaOk qs1 ∧ gs1.length = gs.length ∧ qs1.length ≤ qs.length + 1 := by
  unfold beg at h
  split at h
  · rename_i h1
    simp only [Option.some.injEq, Prod.mk.injEq] at h
    obtain ⟨rfl, rfl⟩ := h
    refine ⟨hs, fun q hq => ?_, rfl, by simp⟩
    rcases List.mem_append.1 hq with hq | hq
    · exact hc q hq
    · simp at hq; subst hq; exact ha h1
  · rename_i h1
    split at h
    · split at h
      · cases h
      · simp only [Option.some.injEq, Prod.mk.injEq] at h
        obtain ⟨rfl, rfl⟩ := h
        exact ⟨hs, fun q hq => hc q (List.mem_of_mem_eraseIdx hq), rfl, by have := List.length_eraseIdx_le qs (by assumption); omega⟩
    · rename_i h2
      split at h
      · split at h
        · cases h
        · rename_i x hx
          obtain ⟨hi, hxe⟩ := List.getElem?_eq_some_iff.1 hx
          have hxs := hs x (hxe ▸ List.getElem_mem hi)
          split at h
          · split at h
            · cases h
            · simp only [Option.some.injEq, Prod.mk.injEq] at h
              obtain ⟨rfl, rfl⟩ := h
              refine ⟨fun y hy => ?_, hc, by simp, by omega⟩
              rcases List.mem_or_eq_of_mem_set hy with h3 | h3
              · exact hs y h3
              · subst h3; exact hxs
          · rename_i h3
            simp only [Option.some.injEq, Prod.mk.injEq] at h
            obtain ⟨rfl, rfl⟩ := h
            refine ⟨fun y hy => ?_, hc, by simp, by omega⟩
            rcases List.mem_or_eq_of_mem_set hy with h4 | h4
            · exact hs y h4
            · subst h4; exact hk ⟨h1, h2, h3⟩
      · cases h
theorem giveN_len (t : Int) : ∀ (f : Nat) (gs : List Ag) (qs : List Wt), CaOk qs → (giveN t f gs qs).1.length = gs.length ∧ (giveN t f gs qs).2.1.length + (giveN t f gs qs).2.2.length = qs.length ∧ (giveN t f gs qs).2.2.length ≤ f
  | 0, gs, qs, _ => by simp [giveN]
  | f + 1, gs, qs, hc => by
    rw [giveN]
    cases h : giveOne t gs qs with
    | none => simp
    | some r =>
      obtain ⟨gs', qs', c⟩ := r
      obtain ⟨-, h2, h3, h4⟩ := giveOne_free hc h
      obtain ⟨i1, i2, i3⟩ := giveN_len t f gs' qs' h4
      simp only [List.length_cons]
      exact ⟨by rw [i1, h2], by omega, by omega⟩
theorem DkOk.ca {n g : Int} {gs : List Ag} {qs : List Wt} (h : DkOk n g gs qs) : CaOk qs := fun q hq => by
  have := (((qs_iff n gs qs).1 h.2.2.2.2.2).1 q hq).1
  simp [wtB, tkB] at this; omega
theorem opB_kind {n : Int} {gs : List Ag} {qs : List Wt} {k t a s p : Int} (h : opB n gs qs k t a s p = true) : (k = 1 ∨ k = 2 ∨ k = 3 ∨ k = 4) ∧ (k = 1 → 0 ≤ a) ∧ (k ≠ 1 ∧ k ≠ 2 ∧ k ≠ 3 → 0 ≤ s ∧ s ≤ 255) := by
  unfold opB at h
  rw [Bool.and_eq_true] at h
  obtain ⟨-, h⟩ := h
  split at h
  · rename_i h1
    refine ⟨.inl h1, fun _ => ?_, fun h2 => absurd h1 h2.1⟩
    simp [wtB, tkB] at h; omega
  · rename_i h1
    split at h
    · rename_i h2
      exact ⟨by omega, fun h3 => absurd h3 h1, fun h3 => by omega⟩
    · split at h
      · rename_i h4
        exact ⟨by omega, fun h3 => absurd h3 h1, fun _ => by simp at h; exact h.1⟩
      · cases h
end Go.Proofs.Ytpmmgbinogokfaa
