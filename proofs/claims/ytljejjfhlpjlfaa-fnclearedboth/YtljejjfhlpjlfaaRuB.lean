/- What the law of RunDuo stands on; no condition; no condition. -/
import Derived.Test.YtljejjfhlpjlfaaRuI
import Derived.Test.YtljejjfhlpjlfaaRuM
import Derived.Test.YtljejjfhlpjlfaaSeL
namespace Go.Proofs.Ytljejjfhlpjlfaa
open Go.RowKit Go.ChangeShapes Go.WideShapes Go.ChangeAt
set_option linter.unusedVariables false
set_option linter.unusedSimpArgs false
set_option maxRecDepth 8000
/-- what RunDuo tells is one thing -/
theorem run_told (s c s' c' : Int) (ls : Tri) (es : Mvs) (hn : ls.length ≤ 1048576) : ∃ (t1 t2 t3 t4 : Int) (tl : Tri), tl.length ≤ 1048576 ∧ ∀ d' : Dt, (es.length ≤ 300 → DOt (s, c, s', c', ls) → d' = evL es (s, c, s', c', ls)) → (es.length ≤ 300 → ¬ DOt (s, c, s', c', ls) → d' = (s, c, s', c', ls)) → (300 < es.length → d' = (0, 0, 0, 0, [])) → d' = (t1, t2, t3, t4, tl) := by
  by_cases hb : 300 < es.length
  · exact ⟨0, 0, 0, 0, [], by simp, fun d' _ _ h => h hb⟩
  by_cases hd : DOt (s, c, s', c', ls)
  · obtain ⟨⟨t1, t2, t3, t4, tl⟩, hT⟩ : ∃ T, evL es (s, c, s', c', ls) = T := ⟨_, rfl⟩
    refine ⟨t1, t2, t3, t4, tl, ?_, fun d' h _ _ => (h (by omega) hd).trans hT⟩
    have hk : ∀ (xs : List (Int × Int)) (d : Dt), DOt d → DOt (evL xs d) := fun xs => by
      induction xs with
      | nil => exact fun d h => h
      | cons x r ih => exact fun d h => ih _ (dok_doE h x.1 x.2)
    have := hk es _ hd
    rw [hT] at this
    have hl : tl.length ≤ 40 := this.2.2.2.2.2.2.1
    omega
  · exact ⟨s, c, s', c', ls, hn, fun d' _ h _ => h (by omega) hd⟩
theorem ru_t {d T : Dt} {es : Mvs} {w : World} {e : Ending} {w' : World} (h : RuR d es w e w') (ht : ∀ d' : Dt, (es.length ≤ 300 → DOt d → d' = evL es d) → (es.length ≤ 300 → ¬ DOt d → d' = d) → (300 < es.length → d' = (0, 0, 0, 0, [])) → d' = T) : DuS w.heap.size w (.slice none 0 0) T e w' := by
  obtain ⟨d', h1, h2, h3, h4⟩ := h
  obtain rfl := ht d' h1 h2 h3
  exact h4
/-- events of one's own, between n and N -/
def Ew (n N : Nat) (W : World) (v : Value) (es : Mvs) : Prop := Op mf mg 35 n W v es ∧ ∀ k, v.ownBlock = some k → k < N
theorem Ew.rd {n N : Nat} {W : World} {v : Value} {es : Mvs} (h : Ew n N W v es) : Rp mf mg W v es := h.1.rd
theorem Ew.below {n N : Nat} {W W' : World} {v : Value} {es : Mvs} (h : Ew n N W v es) (hb : Below W.heap.size W W') : Ew n N W' v es := ⟨h.1.below hb, h.2⟩
theorem Ew.mid {n N lo hi : Nat} {W W' : World} {v : Value} {es : Mvs} (h : Ew n N W v es) (hm : Mid lo hi W W') (ho : hi ≤ n ∨ N ≤ lo) : Ew n N W' v es :=
  ⟨ownsRow_mid h.1 hm (fun k e => by have h1 := (World.ownsRow.lt h.1 k e).1; have h2 := h.2 k e; omega), h.2⟩
theorem Ew.mark {n N : Nat} {W : World} {v : Value} {es : Mvs} (h : Ew n N W v es) (q : Int) (h0 : 0 ≤ q) (hq : q + 2 * es.length ≤ 1152921504606846976) :
    Calls Try.prog 31 #[v, .int .i64 q] W fun e W' => e = .returned (.int .i64 (q + 2 * es.length)) ∧ Mid n N W W' := by
  refine (markEventS_c v es q n W h.1 h0 hq).mono ?_
  rintro e W' ⟨rfl, -, hg⟩
  exact ⟨rfl, Mid.ofGrown hg (fun k e => ⟨(World.ownsRow.lt h.1 k e).1, h.2 k e⟩)⟩
theorem own_form2 {e : TypeId} {base : Nat} {w : World} {v : Value} {ls : Mvs} (h : Op mf mg e base w v ls) : ∃ a cap, v = .slice a ls.length cap := by
  obtain ⟨a, cap, h1, -⟩ := h.rd; exact ⟨a, cap, h1⟩
theorem eqEventS_t (v v' : Value) (xs : Mvs) (w : World) (h : Rp mf mg w v xs) (h' : Rp mf mg w v' xs) : Calls Try.prog 30 #[v, v'] w fun e w' => e = .returned (.bool true) ∧ Below w.heap.size w w' := by
  refine (eqEventS_c v v' xs xs w h h').mono ?_
  rintro e w' ⟨rfl, b⟩
  exact ⟨by simp, b⟩
end Go.Proofs.Ytljejjfhlpjlfaa
