/- What a right link is; the model's texts; no condition. -/
import Derived.Test.YtejoopdpelcpeaaLkD
namespace Go.Proofs.Ytejoopdpelcpeaa
open Go.RowKit Go.ChangeShapes Go.WideShapes Go.ChangeAt
set_option linter.unusedVariables false
set_option linter.unusedSimpArgs false
set_option maxRecDepth 8000
/-- the message of a number -/
def msg (zo : Txs) (q : Int) : ByteArray := if q = 0 then t0 else zo.getD (q - 1).toNat t0
/-- what an end sends is right -/
def OutP (zo : Txs) (s a : Int) : Prop := zo.length ≤ 100 ∧ (∀ r ∈ zo, r.size ≤ 60) ∧ (0 ≤ s ∧ s ≤ zo.length) ∧ (0 ≤ a ∧ a ≤ s) ∧ s ≤ a + 8
/-- what an end took is the beginning of what the other one has -/
def InP (zi zo : Txs) : Prop := zi.length ≤ zo.length ∧ ∀ i (h : i < zi.length) (h' : i < zo.length), zi[i].toList = zo[i].toList
/-- an end is right beside another one, which has zo', s', t' -/
def EndP (zo zi : Txs) (s a t : Int) (zo' : Txs) (s' t' : Int) : Prop := OutP zo s a ∧ t = zi.length ∧ t ≤ s' ∧ a ≤ t' ∧ InP zi zo'
/-- a unit from an end that has zo, s, t -/
def UnP (zo : Txs) (s t : Int) (r : Un) : Prop := (0 ≤ r.ack ∧ r.ack ≤ t) ∧ (0 ≤ r.seq ∧ r.seq ≤ s) ∧ r.dat.toList = (msg zo r.seq).toList
def UsP (zo : Txs) (s t : Int) (l : Uns) : Prop := l.length ≤ 100 ∧ ∀ r ∈ l, UnP zo s t r
/-- a right link -/
def LkP (s0 a0 t0 s1 a1 t1 u : Int) (zo0 zi0 zo1 zi1 : Txs) (l00 l01 l10 l11 : Uns) : Prop :=
  (0 ≤ u ∧ u ≤ 1) ∧ EndP zo0 zi0 s0 a0 t0 zo1 s1 t1 ∧ EndP zo1 zi1 s1 a1 t1 zo0 s0 t0 ∧ UsP zo1 s1 t1 l00 ∧ UsP zo0 s0 t0 l01 ∧ UsP zo1 s1 t1 l10 ∧ UsP zo0 s0 t0 l11
/-- yes or no, and nothing old was turned -/
def Bo (P : Prop) (w : World) (e : Ending) (w' : World) : Prop := ∃ q : Bool, e = .returned (.bool q) ∧ (q = true ↔ P) ∧ Below w.heap.size w w'
theorem Bo.no {P : Prop} {w w' : World} (h : ¬ P) (hb : Below w.heap.size w w') : Bo P w (.returned (.bool false)) w' := ⟨false, rfl, by simp [h], hb⟩
theorem Bo.yes {P : Prop} {w w' : World} (h : P) (hb : Below w.heap.size w w') : Bo P w (.returned (.bool true)) w' := ⟨true, rfl, by simp [h], hb⟩
/-- yes or no, and the world is as it was -/
def Bw (P : Prop) (w : World) (e : Ending) (w' : World) : Prop := (∃ q : Bool, e = .returned (.bool q) ∧ (q = true ↔ P)) ∧ w' = w
theorem Bw.no {P : Prop} {w : World} (h : ¬ P) : Bw P w (.returned (.bool false)) w := ⟨⟨false, rfl, by simp [h]⟩, rfl⟩
theorem Bw.yes {P : Prop} {w : World} (h : P) : Bw P w (.returned (.bool true)) w := ⟨⟨true, rfl, by simp [h]⟩, rfl⟩
theorem in_c (x a b : Int) (w : World) : Calls Try.prog 36 #[.int .i64 x, .int .i64 a, .int .i64 b] w fun e w' => e = .returned (.bool (decide (a ≤ x ∧ x ≤ b))) ∧ w' = w := by
  by_cases h0 : a ≤ x <;> by_cases h1 : x ≤ b
  all_goals
    go_enter Try.func36, Try.ntmps36
    go_wp2
    go_ret
    exact ⟨by simp [h0, h1], rfl⟩
theorem within_c (x a b : Int) (w : World) : Calls Try.prog 40 #[.int .i64 x, .int .i64 a, .int .i64 b] w fun e w' => e = .returned (.bool (decide (a ≤ x ∧ x ≤ b))) ∧ w' = w := by
  by_cases h0 : x ≥ a <;> by_cases h1 : x ≤ b
  all_goals
    go_enter Try.func40, Try.ntmps40
    go_wp2
    go_ret
    exact ⟨by simp; omega, rfl⟩
set_option maxHeartbeats 1600000 in
theorem texts_c (v : Value) (ls : Txs) (w : World) (h : Rx w v ls) (hm : ∀ r ∈ ls, r.size ≤ 1048576) : Calls Try.prog 73 #[v] w (Bw (ls.length ≤ 100 ∧ ∀ r ∈ ls, r.size ≤ 60) w) := by
  obtain ⟨a, cap, rfl, h1, h2, h3⟩ := h
  unfold maxLen at h2
  have HM : Hid (∀ r ∈ ls, r.size ≤ 1048576) := hm
  clear hm
  go_enter Try.func73, Try.ntmps73
  go_wp2
  go_loopw [3] (fun i wr => ∃ j : Nat, j ≤ ls.length ∧ i = .int .i64 j ∧ wr = w ∧ Hid (∀ t (ht : t < ls.length), t < j → ls[t].size ≤ 60)) (fun i _ => ls.length - (intOf i).toNat)
  case atStart => exact ⟨0, Nat.zero_le _, rfl, rfl, fun t _ h => by omega⟩
  case round =>
    obtain ⟨j, hj, rfl, hwr, hA⟩ := hrel
    have hwr' := hwr.symm
    clear hwr
    subst hwr'
    by_cases hlt : j < ls.length
    case neg =>
      obtain rfl : j = ls.length := by omega
      have HF : Hid (∀ r ∈ ls, r.size ≤ 60) := fun r hr => by
        obtain ⟨i, hi, rfl⟩ := List.getElem_of_mem hr
        exact hA.out i hi hi
      clear h3
      by_cases h100 : (ls.length : Int) ≤ 100
      · go_wp2
        go_ret
        exact Bw.yes ⟨by omega, HF.out⟩
      · go_wp2
        go_ret
        exact Bw.no (fun h => by omega)
    case pos =>
    rcases h3 with h3 | ⟨b, off, rfl, h4⟩
    · subst h3; simp at hlt
    have hc := h4 j hlt
    obtain ⟨r, hr⟩ : ∃ r, ls[j] = r := ⟨_, rfl⟩
    have HR : Hid (ls[j] = r) := hr
    have hm := HM.out _ (List.getElem_mem hlt)
    rw [hr] at hc hm
    clear h4 hr
    by_cases hz : 60 < (r.size : Int)
    · go_wp2
      go_ret
      exact Bw.no (fun h => by have := h.2 _ (List.getElem_mem hlt); rw [HR.out] at this; omega)
    · have hz' : ((60 : Int) < (r.size : Int)) = False := eq_false hz
      go_wp2
      go_roundw
      case rel => exact ⟨j + 1, by omega, by go_num, trivial, fun t ht h => by
          by_cases htj : t < j
          · exact hA.out t ht htj
          · obtain rfl : t = j := by omega
            rw [HR.out]; omega⟩
      case measure => simp [intOf]; omega
end Go.Proofs.Ytejoopdpelcpeaa
