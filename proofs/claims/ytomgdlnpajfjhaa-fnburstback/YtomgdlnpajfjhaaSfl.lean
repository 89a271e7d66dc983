/- sameFloat; no condition. -/
import Derived.Test.YtomgdlnpajfjhaaFlo
import Derived.Test.YtomgdlnpajfjhaaBase
import Derived.BigQuiet
namespace Go.Proofs.Ytomgdlnpajfjhaa
open Go.RowKit Go.ChangeShapes Go.WideShapes Go.ChangeAt
set_option linter.unusedVariables false
set_option linter.unusedSimpArgs false
set_option maxRecDepth 8000
/-- how two floats stand to each other, by what they are -/
def ford (k : FloatKind) : Option Nat → Option Nat → Option Ordering
  | some a, some b => k.format.order a b
  | _, _ => none
theorem order_fc (k : FloatKind) (a b : Nat) : k.format.order a b = ford k (fc k a) (fc k b) := by
  unfold Ieee.Format.order
  rcases fc_cases k a with ⟨h1, h2⟩ | ⟨h1, h2⟩ <;> rcases fc_cases k b with ⟨h3, h4⟩ | ⟨h3, h4⟩ <;> simp only [h2, h4, ford]
  all_goals simp only [fnan, FloatKind.decode] at h1 h3
  all_goals cases ha : k.format.read a <;> cases hb : k.format.read b <;> simp [ha, hb, Ieee.Datum.isNaN, Ieee.Datum.order, Ieee.Format.order] at *
theorem order_self {k : FloatKind} {a : Nat} (h : fnan k a = false) : k.format.order a a = some .eq := by
  unfold Ieee.Format.order
  simp only [fnan, FloatKind.decode] at h
  cases ha : k.format.read a <;> simp [ha, Ieee.Datum.isNaN, Ieee.Datum.order] at *
theorem order_nan {k : FloatKind} {a : Nat} (h : fnan k a = true) : k.format.order a a = none := by
  rw [order_fc, fc_none h]; rfl
theorem sameFloat_c (a b : Nat) (h : fc .f64 a = fc .f64 b) (w : World) : Calls Try.prog 55 #[.float .f64 a, .float .f64 b] w fun e w' => e = .returned (.bool true) ∧ Below w.heap.size w w' := by
  have hop := run_fop (P := Try.prog) .quo (by simp)
  rcases fc_cases .f64 a with ⟨h1, h2⟩ | ⟨h1, h2⟩
  · have o1 := order_nan h1
    have o2 := order_nan (k := .f64) (a := b) (by rw [← fnan_of h]; exact h1)
    clear h h2 h1
    go_enter Try.func55, Try.ntmps55
    go_wp2
    all_goals first | (go_ret; exact ⟨rfl, Below.refl _ _⟩) | skip
  · obtain rfl := eq_of_fc h h1
    have o1 := order_self h1
    have HR : ∀ w', ((FloatKind.f64.format.order (fv .quo .f64 4607182418800017408 a w) 0 == some .gt) == (FloatKind.f64.format.order (fv .quo .f64 4607182418800017408 a w') 0 == some .gt)) = true := by
      intro w'
      rw [order_fc .f64 (fv .quo .f64 4607182418800017408 a w), order_fc .f64 (fv .quo .f64 4607182418800017408 a w'), fc_fv, fc_fv]
      simp
    clear h h2 h1
    go_enter Try.func55, Try.ntmps55
    go_wp2
    · have := HR (w.drewN (fn .quo .f64 4607182418800017408 a))
      go_ret
      exact ⟨by simp [this], below_drewN (Below.refl _ _) _⟩
    · go_ret
      exact ⟨rfl, Below.refl _ _⟩
/-- a float's and a complex number's store: laws for the walk -/
theorem storeF (w : World) (a : Addr) (k : FloatKind) (b : Nat) (m : Mode) : (store a (.float k b) m).run Try.prog w = stored Try.prog w a (.float k b) m := run_store _ w a _ m rfl
theorem storeC (w : World) (a : Addr) (k : FloatKind) (x y : Nat) (m : Mode) : (store a (.complex k x y) m).run Try.prog w = stored Try.prog w a (.complex k x y) m := run_store _ w a _ m rfl
end Go.Proofs.Ytomgdlnpajfjhaa
