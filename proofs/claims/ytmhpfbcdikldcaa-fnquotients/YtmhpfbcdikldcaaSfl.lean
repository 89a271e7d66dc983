/- sameFloat; no condition. -/
import Derived.Test.YtmhpfbcdikldcaaFlc
import Derived.Test.YtmhpfbcdikldcaaBase
import Derived.BigQuiet
namespace Go.Proofs.Ytmhpfbcdikldcaa
open Go.RowKit Go.ChangeShapes Go.WideShapes Go.ChangeAt
set_option linter.unusedVariables false
set_option linter.unusedSimpArgs false
set_option maxRecDepth 8000
/-- how two floats stand to each other, by what they are -/
def ford (k : FloatKind) : Option Nat → Option Nat → Option Ordering
  | some a, some b => k.format.order a b
  | _, _ => none
theorem order_fc (k : FloatKind) (a b : Nat) : k.format.order a b = ford k (fc k a) (fc k b) := by
  unfold Ieee.Format.order
  rcases fc_cases k a with ⟨h1, h2⟩ | ⟨h1, h2⟩ <;> rcases fc_cases k b with ⟨h3, h4⟩ | ⟨h3, h4⟩ <;> simp only [h2, h4, ford]
  all_goals simp only [fnan, FloatKind.decode] at h1 h3
  all_goals cases ha : k.format.read a <;> cases hb : k.format.read b <;> simp [ha, hb, Ieee.Datum.isNaN, Ieee.Datum.order, Ieee.Format.order] at *
theorem order_self {k : FloatKind} {a : Nat} (h : fnan k a = false) : k.format.order a a = some .eq := by
  unfold Ieee.Format.order
  simp only [fnan, FloatKind.decode] at h
  cases ha : k.format.read a <;> simp [ha, Ieee.Datum.isNaN, Ieee.Datum.order] at *
theorem order_nan {k : FloatKind} {a : Nat} (h : fnan k a = true) : k.format.order a a = none := by
  rw [order_fc, fc_none h]; rfl
/-- a float's and a complex number's store: laws for the walk -/
theorem storeF (w : World) (a : Addr) (k : FloatKind) (b : Nat) (m : Mode) : (store a (.float k b) m).run Try.prog w = stored Try.prog w a (.float k b) m := run_store _ w a _ m rfl
theorem storeC (w : World) (a : Addr) (k : FloatKind) (x y : Nat) (m : Mode) : (store a (.complex k x y) m).run Try.prog w = stored Try.prog w a (.complex k x y) m := run_store _ w a _ m rfl
end Go.Proofs.Ytmhpfbcdikldcaa
