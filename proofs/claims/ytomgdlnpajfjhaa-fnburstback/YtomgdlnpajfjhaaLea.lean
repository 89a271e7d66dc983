/- Products of singles; no condition. -/
import Derived.Test.YtomgdlnpajfjhaaMai
import Derived.Test.YtomgdlnpajfjhaaDraw
namespace Go.Proofs.Ytomgdlnpajfjhaa
open Go.RowKit Go.ChangeShapes Go.WideShapes Go.ChangeAt
set_option linter.unusedVariables false
set_option linter.unusedSimpArgs false
set_option maxRecDepth 8000
/-- what a double may be narrowed to -/
def NA (A : Option Nat) (x : Nat) : Prop := match A with
  | none => fnan .f32 x = true
  | some b => match FloatKind.f64.decode b with
    | .number s m e => (FloatKind.f32.decode (FloatKind.f32.encode (.number s m e))).isInfinity = false → x = FloatKind.f32.encode (.number s m e)
    | .infinity s => x = FloatKind.f32.encode (.infinity s)
    | .nan _ _ => True
theorem run_narR {P : Program} (b : Nat) (w : World) : ∃ x n, (Conv.floatToFloat .f64 b .f32).run P w = .ok (.float .f32 x) (w.drewN n) ∧ NA (fc .f64 b) x := by
  unfold Conv.floatToFloat
  rw [if_neg (by decide)]
  cases h : FloatKind.f64.decode b with
  | nan s t =>
    have hn : fnan .f64 b = true := by simp [fnan, h, Ieee.Datum.isNaN]
    refine ⟨Question.cut (.nanConv .f32 b) (w.tape w.drawn (.nanConv .f32 b)), 1, ?_, ?_⟩
    · simp [run_choose_drew, Question.forced, World.drew_is_drewN]
    · rw [fc_none hn]; exact cut_nanC ..
  | infinity s =>
    have hn : fnan .f64 b = false := by simp [fnan, h, Ieee.Datum.isNaN]
    exact ⟨_, 0, by simp [World.drewN_zero]; rfl, by rw [fc_some hn]; simp [NA, h]⟩
  | number s m e =>
    have hn : fnan .f64 b = false := by simp [fnan, h, Ieee.Datum.isNaN]
    cases hi : (FloatKind.f32.decode (FloatKind.f32.encode (.number s m e))).isInfinity
    · exact ⟨_, 0, by simp [hi, World.drewN_zero]; rfl, by rw [fc_some hn]; simp [NA, h]⟩
    · exact ⟨_, 1, by simp [hi, run_choose_drew, Question.forced, World.drew_is_drewN]; rfl, by rw [fc_some hn]; simp [NA, h, hi]⟩
/-- what a product of singles may be -/
def PR (a b c d x y : Nat) : Prop :=
  NA (fo .sub .f64 (fo .mul .f64 ((fc .f32 a).map wid) ((fc .f32 c).map wid)) (fo .mul .f64 ((fc .f32 b).map wid) ((fc .f32 d).map wid))) x ∧
  NA (fo .add .f64 (fo .mul .f64 ((fc .f32 a).map wid) ((fc .f32 d).map wid)) (fo .mul .f64 ((fc .f32 b).map wid) ((fc .f32 c).map wid))) y
theorem run_narC {P : Program} (src dst : TypeId) (a b : Nat) (w : World) (hs : (P.underlying src).isSome = true) (hd : P.underlying dst = some (.complex .f32)) : ∃ x y n, (convert src dst (.complex .f64 a b)).run P w = .ok (.complex .f32 x y) (w.drewN n) ∧ NA (fc .f64 a) x ∧ NA (fc .f64 b) y := by
  obtain ⟨x, n, h1, h2⟩ := run_narR (P := P) a w
  obtain ⟨y, m, h3, h4⟩ := run_narR (P := P) b (w.drewN n)
  refine ⟨x, y, n + m, ?_, h2, h4⟩
  obtain ⟨u, hs'⟩ := Option.isSome_iff_exists.1 hs
  cases u <;> simp [convert, run_underlying hs', run_underlying hd, Conv.complexToComplex, h1, h3, World.drewN_drewN]
theorem product_c (a b c d : Nat) (w : World) : Calls Try.prog 31 #[.complex .f32 a b, .complex .f32 c d] w fun e w' => ∃ x y n, e = .returned (.complex .f32 x y) ∧ PR a b c d x y ∧ w' = w.drewN n := by
  have hcv := fun s d a b w hs hd => run_conv_cwid (P := Try.prog) s d a b w hs hd
  obtain ⟨re, im, n, hm, h1, h2⟩ := run_cmul (P := Try.prog) 65 (wv a w) (wv b (w.drewN (wn a))) (wv c (w.drewN (wn a + wn b))) (wv d (w.drewN (wn a + wn b + wn c))) (w.drewN (wn a + wn b + (wn c + wn d)))
  obtain ⟨x, y, m, hc, h3, h4⟩ := run_narC (P := Try.prog) 65 55 re im ((w.drewN (wn a + wn b + (wn c + wn d))).drewN n) (by kernel_rfl) Try.underlying55
  have HP : Hid (PR a b c d x y) := by
    rw [h1] at h3
    rw [h2] at h4
    simp only [fc_wv] at h3 h4
    exact ⟨h3, h4⟩
  simp only [World.drewN_drewN] at hm hc
  clear h1 h2 h3 h4
  go_enter Try.func31, Try.ntmps31
  go_wp2
  go_ret
  exact ⟨x, y, _, rfl, HP.out, rfl⟩
end Go.Proofs.Ytomgdlnpajfjhaa
