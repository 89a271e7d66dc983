/- What the model's Carry has behind it has seen the circuit; no condition. -/
import Derived.Test.YtkehcalijamhjaaPtR
import Derived.Test.YtkehcalijamhjaaLvM
import Derived.Test.YtkehcalijamhjaaOpn
namespace Go.Proofs.Ytkehcalijamhjaa
open Go.RowKit Go.ChangeShapes Go.WideShapes Go.ChangeAt
set_option linter.unusedVariables false
set_option linter.unusedSimpArgs false
set_option maxRecDepth 8000
theorem carry_pw0 {b h : Nat} {V2 V3 : World} {c1 w1 CV : Value} {rb nb mz hz mw hw m : Nat} {sn : Int} {z0 z1 : List Int} {n0 n1 ns : Mvs} (o : Ok6 b h V2 (.slice (some ⟨rb, 0, none⟩) mz hz) c1 (.slice (some ⟨nb, 0, none⟩) mw hw) w1 z0 z1 n0 n1) (hh : h ≤ V2.heap.size) (hl : z0.length = mz) (hcv : Rp mf mg V2 CV ns) (hcb : CV.ownBlock = some nb) (h3 : V2.drew.setCell ⟨rb, m, none⟩ (.int .i64 sn) = V3) :
    Pw1 b h V3 (.slice (some ⟨rb, 0, none⟩) mz hz) c1 CV w1 (z0.set m sn) z1 ns n1 ∧ Fr (fun k => k = rb) V2 V3 := by
  have f : Fr (fun k => k = rb) V2 V3 := by
    rw [← h3]
    refine (Fr.drew' V2).set ?_ _ _
    rfl
  refine ⟨⟨⟨⟨?_, ?_, ?_, ?_⟩, ?_⟩, ?_, ?_⟩, f⟩
  · exact by rw [← h3]; exact Ow.rd (Ow.setAt hl (ownsRow_fr o.o0 (Fr.drew' (X := fun _ => False) V2) (fun _ _ h => h)) m sn)
  · exact Ow.rd (ownsRow_fr o.o1 f (fun k e h => o.a01 rb rfl (h ▸ e)))
  · exact hcv.fr f (fun k e => by rw [hcb] at e; cases e; exact ⟨Nat.lt_of_lt_of_le (o.ge nb (.inr (.inl rfl))).2 hh, fun h => o.ax rb (.inl rfl) (h ▸ (.inl rfl))⟩)
  · exact Op.rd (ownsRow_fr o.o3 f (fun k e h => o.ax rb (.inl rfl) (.inr (h ▸ e))))
  · intro k hk
    rcases hk with (e | e) | (e | e)
    · exact o.ge k (.inl (.inl e))
    · exact o.ge k (.inl (.inr e))
    · rw [hcb] at e; cases e; exact o.ge nb (.inr (.inl rfl))
    · exact o.ge k (.inr (.inr e))
  · exact ownsRow_fr o.o3 f (fun k e h => o.ax rb (.inl rfl) (.inr (h ▸ e)))
  · intro k e h
    rcases h with h | h | h
    · exact o.ax k (.inl h) (.inr e)
    · exact o.ax k (.inr h) (.inr e)
    · rw [hcb] at h; cases h; exact o.a23 nb rfl e
theorem Pw0.fr {X : Nat → Prop} {b h : Nat} {W W' : World} {c0 c1 w0 w1 : Value} {z0 z1 : List Int} {n0 n1 : Mvs} (x : Pw0 b h W c0 c1 w0 w1 z0 z1 n0 n1) (hh : h ≤ W.heap.size) (hf : Fr X W W') (hx : ∀ k, InT c0 c1 w0 w1 k → ¬ X k) : Pw0 b h W' c0 c1 w0 w1 z0 z1 n0 n1 := ⟨x.rb.fr hh hf hx, ownsRow_fr x.own hf (fun k e => hx k (.inr (.inl e))), x.ap⟩
theorem carry_pw1 {b h : Nat} {V2 V3 : World} {c0 w0 CV : Value} {rb nb mz hz mw hw m : Nat} {sn : Int} {z0 z1 : List Int} {n0 n1 ns : Mvs} (o : Ok6 b h V2 c0 (.slice (some ⟨rb, 0, none⟩) mz hz) w0 (.slice (some ⟨nb, 0, none⟩) mw hw) z0 z1 n0 n1) (hh : h ≤ V2.heap.size) (hl : z1.length = mz) (hcv : Rp mf mg V2 CV ns) (hcb : CV.ownBlock = some nb) (h3 : V2.drew.setCell ⟨rb, m, none⟩ (.int .i64 sn) = V3) :
    Pw0 b h V3 c0 (.slice (some ⟨rb, 0, none⟩) mz hz) w0 CV z0 (z1.set m sn) n0 ns ∧ Fr (fun k => k = rb) V2 V3 := by
  have f : Fr (fun k => k = rb) V2 V3 := by
    rw [← h3]
    refine (Fr.drew' V2).set ?_ _ _
    rfl
  refine ⟨⟨⟨⟨?_, ?_, ?_, ?_⟩, ?_⟩, ?_, ?_⟩, f⟩
  · exact Ow.rd (ownsRow_fr o.o0 f (fun k e h => o.a01 k e (by rw [h]; rfl)))
  · exact by rw [← h3]; exact Ow.rd (Ow.setAt hl (ownsRow_fr o.o1 (Fr.drew' (X := fun _ => False) V2) (fun _ _ h => h)) m sn)
  · exact Op.rd (ownsRow_fr o.o2 f (fun k e h => o.ax rb (.inr rfl) (.inl (h ▸ e))))
  · exact hcv.fr f (fun k e => by rw [hcb] at e; cases e; exact ⟨Nat.lt_of_lt_of_le (o.ge nb (.inr (.inr rfl))).2 hh, fun h => o.ax rb (.inr rfl) (h ▸ (.inr rfl))⟩)
  · intro k hk
    rcases hk with (e | e) | (e | e)
    · exact o.ge k (.inl (.inl e))
    · exact o.ge k (.inl (.inr e))
    · exact o.ge k (.inr (.inl e))
    · rw [hcb] at e; cases e; exact o.ge nb (.inr (.inr rfl))
  · exact ownsRow_fr o.o2 f (fun k e h => o.ax rb (.inr rfl) (.inl (h ▸ e)))
  · intro k e h
    rcases h with h | h | h
    · exact o.ax k (.inl h) (.inl e)
    · exact o.ax k (.inr h) (.inl e)
    · rw [hcb] at h; cases h; exact o.a23 nb e rfl
theorem Pw1.fr {X : Nat → Prop} {b h : Nat} {W W' : World} {c0 c1 w0 w1 : Value} {z0 z1 : List Int} {n0 n1 : Mvs} (x : Pw1 b h W c0 c1 w0 w1 z0 z1 n0 n1) (hh : h ≤ W.heap.size) (hf : Fr X W W') (hx : ∀ k, InT c0 c1 w0 w1 k → ¬ X k) : Pw1 b h W' c0 c1 w0 w1 z0 z1 n0 n1 := ⟨x.rb.fr hh hf hx, ownsRow_fr x.own hf (fun k e => hx k (.inr (.inr e))), x.ap⟩
end Go.Proofs.Ytkehcalijamhjaa
