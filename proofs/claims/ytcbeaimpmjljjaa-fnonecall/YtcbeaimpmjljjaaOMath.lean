/- the mathematics of being in one call; no condition. -/
import Derived.Test.YtcbeaimpmjljjaaHMath
namespace Go.Proofs.Ytcbeaimpmjljjaa
open Go.RowKit Go.ChangeShapes Go.WideShapes Go.ChangeAt
set_option linter.unusedVariables false
set_option linter.unusedSimpArgs false
set_option maxRecDepth 8000
def on (cs : Calls2) (a b : Int) : Bool := (callAt cs a).isSome && (callAt cs a == callAt cs b)
theorem on_iff {n : Int} {cs : Calls2} (h : POk n cs) (a b : Int) : OneP n cs a b ↔ on cs a b = true := by
  simp [OneP, on, h]
theorem on_sym (cs : Calls2) (a b : Int) : on cs b a = on cs a b := by
  unfold on
  cases ha : callAt cs a <;> cases hb : callAt cs b <;> simp
  exact BEq.comm
theorem on_self {cs : Calls2} {a b : Int} (h : on cs a b = true) : on cs a a = true := by
  unfold on at *; simp at h ⊢; exact h.1
theorem on_trans {cs : Calls2} {a b c : Int} (h : on cs a b = true) (h' : on cs b c = true) : on cs a c = true := by
  unfold on at *; simp at h h' ⊢; exact ⟨h.1, h.2.trans h'.2⟩
theorem one_v {n : Int} {cs : Calls2} (hp : POk n cs) (v : Value) (a b : Int) (w : World) (h : RdC w v cs) :
    Calls Try.prog 22 #[.agg #[.int .i64 n, v], .int .i64 a, .int .i64 b] w fun e w' => e = .returned (.bool (on cs a b)) ∧ Below w.heap.size w w' :=
  (one_c n v cs a b w h).mono fun e w' ⟨r, h1, h2, h3⟩ => ⟨by
    rw [h1]
    have : r = on cs a b := by
      rw [on_iff hp] at h2
      cases r <;> cases ho : on cs a b <;> simp_all
    rw [this], h3⟩
theorem mem_lines {n : Int} {cs : Calls2} (h : POk n cs) (l : Int) : on cs l l = true ↔ l ∈ linesTo cs cs.length := by
  have e : on cs l l = (callAt cs l).isSome := by simp [on]
  rw [e]
  constructor
  · intro h1
    cases hc : callAt cs l with
    | none => simp [hc] at h1
    | some i =>
      have hi := callAt_lt hc
      rw [callAt, List.findIdx?_eq_some_iff_getElem] at hc
      obtain ⟨x, hx, hl⟩ := legAt_isSome.1 hc.2.1
      simp only [linesTo, List.take_length, List.mem_flatMap, List.mem_map]
      exact ⟨cs[i], List.getElem_mem hi, x, hx, hl⟩
  · intro h1
    simp only [linesTo, List.take_length, List.mem_flatMap, List.mem_map] at h1
    obtain ⟨c, hc, x, hx, rfl⟩ := h1
    obtain ⟨i, hi, rfl⟩ := List.getElem_of_mem hc
    obtain ⟨k, hk, rfl⟩ := List.getElem_of_mem hx
    rw [(leg_of h hi hk).2]; rfl
/-- how many of the first lines are in calls -/
def inTo (cs : Calls2) (j : Nat) : Nat := (asc j (linesTo cs cs.length)).length
theorem inTo_succ {n : Int} {cs : Calls2} (h : POk n cs) (j : Nat) : inTo cs (j + 1) = inTo cs j + (if on cs (j : Int) (j : Int) then 1 else 0) := by
  rw [inTo, inTo, asc_succ, List.length_append]
  by_cases hm : (j : Int) ∈ linesTo cs cs.length
  · rw [if_pos hm, if_pos ((mem_lines h _).2 hm)]; rfl
  · rw [if_neg hm, if_neg (fun h2 => hm ((mem_lines h _).1 h2))]; rfl
theorem inTo_all {n : Int} {cs : Calls2} (h : POk n cs) : inTo cs n.toNat = (linesTo cs cs.length).length := by
  have hn : ((n.toNat : Nat) : Int) = n := by have := h.1; omega
  exact (asc_perm h.2.2.2.2 (fun x hx => by rw [hn]; exact h.2.2.2.1 x hx)).length_eq
theorem inTo_le (cs : Calls2) (j : Nat) : inTo cs j ≤ j := asc_len _ _
theorem linesLen_succ (cs : Calls2) (i : Nat) (h : i < cs.length) : (linesTo cs (i + 1)).length = (linesTo cs i).length + cs[i].2.length := by
  rw [linesTo_succ cs i h, List.length_append, List.length_map]
theorem linesLen_le {m b : Nat} {cs : Calls2} (hl : Lim m b cs) (i : Nat) (h : i ≤ cs.length) : (linesTo cs i).length ≤ i * b := by
  induction i with
  | zero => simp [linesTo]
  | succ i ih =>
    rw [linesLen_succ cs i (by omega), Nat.succ_mul]
    have := hl.2 _ (List.getElem_mem (show i < cs.length by omega))
    have := ih (by omega)
    omega
theorem legs_on {n : Int} {cs : Calls2} (h : POk n cs) {i k : Nat} (hi : i < cs.length) (hk : k < cs[i].2.length) : on cs (cs[i].2[0]'(by omega)).1 cs[i].2[k].1 = true := by
  have h0 := (leg_of h hi (show 0 < cs[i].2.length by omega)).2
  have h1 := (leg_of h hi hk).2
  simp [on, h0, h1]
def smallD : Calls2 := [(false, [(0, false), (1, false)])]
theorem small_one : OneP 2 smallD 0 1 := by refine ⟨by decide, by decide, by decide⟩
end Go.Proofs.Ytcbeaimpmjljjaa
