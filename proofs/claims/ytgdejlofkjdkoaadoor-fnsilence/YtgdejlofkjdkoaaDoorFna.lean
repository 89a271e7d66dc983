/- Sums of waves; no condition. -/
import Derived.Test.YtgdejlofkjdkoaaDoorDss
namespace Go.Proofs.YtgdejlofkjdkoaaDoor
open Go.RowKit Go.ChangeShapes Go.WideShapes Go.ChangeAt
set_option linter.unusedVariables false
set_option linter.unusedSimpArgs false
set_option maxRecDepth 8000

/-- the sum of the first n -/
def sm (f : Nat → Int) : Nat → Int
  | 0 => 0
  | n + 1 => sm f n + f n
theorem sm_congr {f g : Nat → Int} : ∀ n, (∀ i, i < n → f i = g i) → sm f n = sm g n
  | 0, _ => rfl
  | n + 1, h => by simp only [sm]; rw [sm_congr n (fun i hi => h i (by omega)), h n (by omega)]
theorem sm_add (f g : Nat → Int) : ∀ n, sm (fun i => f i + g i) n = sm f n + sm g n
  | 0 => rfl
  | n + 1 => by simp only [sm]; rw [sm_add f g n]; omega
theorem sm_neg (f : Nat → Int) : ∀ n, sm (fun i => -f i) n = -sm f n
  | 0 => rfl
  | n + 1 => by simp only [sm]; rw [sm_neg f n]; omega
theorem sm_mul (c : Int) (f : Nat → Int) : ∀ n, sm (fun i => c * f i) n = c * sm f n
  | 0 => by simp [sm]
  | n + 1 => by simp only [sm]; rw [sm_mul c f n, Int.mul_add]
theorem sm_const (c : Int) : ∀ n, sm (fun _ => c) n = c * n
  | 0 => by simp [sm]
  | n + 1 => by simp only [sm]; rw [sm_const c n, Int.natCast_add, Int.mul_add]; simp
theorem sm_bd {f : Nat → Int} {B : Int} : ∀ n, (∀ i, i < n → -B ≤ f i ∧ f i ≤ B) → -(B * n) ≤ sm f n ∧ sm f n ≤ B * n
  | 0, _ => by simp [sm]
  | n + 1, h => by
    have h1 := sm_bd n (fun i hi => h i (by omega))
    have h2 := h n (by omega)
    simp only [sm]
    rw [Int.natCast_add, Int.mul_add]
    simp only [Int.natCast_one, Int.mul_one]
    omega
theorem sm_le {f g : Nat → Int} : ∀ n, (∀ i, i < n → f i ≤ g i) → sm f n ≤ sm g n
  | 0, _ => by simp [sm]
  | n + 1, h => by
    have h1 := sm_le n (fun i hi => h i (by omega))
    have h2 := h n (by omega)
    simp only [sm]
    omega
theorem sm_split (f : Nat → Int) (a : Nat) : ∀ b, sm f (a + b) = sm f a + sm (fun i => f (a + i)) b
  | 0 => by simp [sm]
  | b + 1 => by rw [← Nat.add_assoc]; simp only [sm]; rw [sm_split f a b]; omega
theorem sm_zero_h (h : Nat) : ∀ (q : Nat) (f : Nat → Int), (∀ i, f (h + i) = -f i) → sm f (2 * h * q) = 0
  | 0, _, _ => rfl
  | q + 1, f, hf => by
    have e : 2 * h * (q + 1) = h + h + 2 * h * q := by rw [Nat.mul_add]; omega
    rw [e, sm_split f (h + h), sm_split f h, sm_congr h (fun i _ => hf i), sm_neg]
    have := sm_zero_h h q (fun i => f (h + h + i)) (fun i => by
      have h1 := hf (h + i)
      have h2 := hf (h + (h + i))
      have e1 : h + h + (h + i) = h + (h + (h + i)) := by omega
      have e2 : h + h + i = h + (h + i) := by omega
      show f (h + h + (h + i)) = -f (h + h + i)
      rw [e1, e2, h2])
    omega
theorem wave_mod {a b : Int} (h : a % 256 = b % 256) : wave a = wave b := by unfold wave; rw [h]
/-- waves around the circle come to nothing -/
theorem zero_sum (t m : Int) (h q : Nat) (hq : 2 * h * q = 128) (hm : ((h : Int) * m) % 256 = 128) : sm (fun i => wave (t + i * m)) 128 = 0 := by
  rw [← hq]
  refine sm_zero_h h q _ fun i => ?_
  have e : t + ((h + i : Nat) : Int) * m = t + i * m + h * m := by rw [Int.natCast_add, Int.add_mul]; omega
  show wave (t + ((h + i : Nat) : Int) * m) = _
  rw [e, ← wave_half (t + i * m)]
  apply wave_mod
  omega
/-- all waves, one round -/
def tw : List Int := (List.range 256).map waveN
theorem tw_len : tw.length = 256 := by simp [tw]
theorem tw_at (i : Nat) (h : i < 256) : tw.getD i 0 = waveN i := by simp [tw, h]
def okA (x y s d : Int) : Bool := decide (-549755813888 ≤ 2 * (x * y) - 1073741824 * (s + d)) && decide (2 * (x * y) - 1073741824 * (s + d) ≤ 549755813888)
def chkA (x : Int) : List Int → List Int → List Int → Bool
  | y :: ys, s :: ss, d :: ds => okA x y s d && chkA x ys ss ds
  | _, _, _ => true
theorem chkA_at (x : Int) : ∀ (ys ss ds : List Int) (i : Nat), chkA x ys ss ds = true → i < ys.length → i < ss.length → i < ds.length → okA x (ys.getD i 0) (ss.getD i 0) (ds.getD i 0) = true
  | y :: ys, s :: ss, d :: ds, 0, h, _, _, _ => by simp only [chkA, Bool.and_eq_true] at h; exact h.1
  | y :: ys, s :: ss, d :: ds, i + 1, h, h1, h2, h3 => by
    simp only [chkA, Bool.and_eq_true] at h
    have := chkA_at x ys ss ds i h.2 (by simpa using h1) (by simpa using h2) (by simpa using h3)
    simpa using this
  | [], _, _, i, _, h1, _, _ => by simp at h1
  | _ :: _, [], _, i, _, _, h2, _ => by simp at h2
  | _ :: _, _ :: _, [], i, _, _, _, h3 => by simp at h3
def chkB (l : List Int) : Nat → List Int → Bool
  | 0, _ => true
  | n + 1, xs => (match xs with | x :: _ => chkA x l ((l ++ l).drop (256 - (n + 1))) ((l ++ l).drop (n + 1)) | [] => false) && chkB l n xs.tail
theorem all_ok : chkB tw 256 tw = true := by decide +kernel

end Go.Proofs.YtgdejlofkjdkoaaDoor
