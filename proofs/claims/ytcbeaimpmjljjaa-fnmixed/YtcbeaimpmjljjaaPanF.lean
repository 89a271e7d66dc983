/- The contract of the model's function that finds a line's leg in a panel; no condition. -/
import Derived.Test.YtcbeaimpmjljjaaPanZ
namespace Go.Proofs.Ytcbeaimpmjljjaa
open Go.RowKit Go.ChangeShapes Go.WideShapes Go.ChangeAt
set_option linter.unusedVariables false
set_option linter.unusedSimpArgs false
abbrev Calls2 := List (Bool × List (Int × Bool))
/-- no leg of the first j calls is the line's -/
def NoneTo (cs : Calls2) (line : Int) (j : Nat) : Prop := ∀ a (h : a < cs.length), a < j → ∀ b (h' : b < cs[a].2.length), cs[a].2[b].1 ≠ line
/-- i and k are the call and leg of a line, the first; -1 and -1 when there is none -/
def Found (cs : Calls2) (line : Int) (i k : Int) : Prop :=
  (i = -1 ∧ k = -1 ∧ NoneTo cs line cs.length) ∨
  ∃ a b : Nat, i = a ∧ k = b ∧ ∃ (ha : a < cs.length) (hb : b < cs[a].2.length), cs[a].2[b].1 = line ∧ NoneTo cs line a ∧ ∀ b' (h' : b' < cs[a].2.length), b' < b → cs[a].2[b'].1 ≠ line
set_option maxHeartbeats 1600000 in
theorem find_c (n : Int) (v : Value) (cs : Calls2) (line : Int) (w : World) (h : RdC w v cs) :
   Calls Try.prog 61 #[.agg #[.int .i64 n, v], .int .i64 line] w fun e w' => ∃ i k : Int, e = .returned (.tuple #[.int .i64 i, .int .i64 k]) ∧ Found cs line i k ∧ Below w.heap.size w w' := by
  have hb : Below w.heap.size w (w.alloc (Obj.cells #[.int .i64 n, v] 26)) := (Below.refl _ _).alloc (Nat.le_refl _) _
  obtain ⟨rv, hrl, ⟨a, cap, rfl, h1, h2, h3⟩, hrc⟩ := h.below hb
  unfold maxLen at h2
  have HB : Hid _ := hb
  have HRC : Hid (∀ i (h : i < cs.length) (h' : i < rv.length), rv[i].1 = .bool cs[i].1 ∧ Rp lf lg (w.alloc (Obj.cells #[.int .i64 n, .slice a rv.length cap] 26)) rv[i].2 cs[i].2) := hrc
  have HRL : Hid (rv.length = cs.length) := hrl
  have HN : Hid (NoneTo cs line rv.length → NoneTo cs line cs.length) := by rw [hrl]; exact id
  clear hrc hrl hb h
  go_enter Try.func61, Try.ntmps61
  go_wp2
  go_loopw [6] (fun i wr => ∃ j : Nat, j ≤ rv.length ∧ i = .int .i64 j ∧ wr = w.alloc (Obj.cells #[.int .i64 n, .slice a rv.length cap] 26) ∧ Hid (NoneTo cs line j)) (fun i _ => rv.length - (intOf i).toNat)
  case atStart => exact ⟨0, Nat.zero_le _, rfl, rfl, fun a h h' => by omega⟩
  case round =>
    obtain ⟨j, hj, rfl, rfl, hno⟩ := hrel
    by_cases hlt : j < rv.length
    · have hjc : j < cs.length := by have h := HRL.out; omega
      rcases h3 with h3 | ⟨b, off, rfl, h4⟩
      · subst h3; simp at hlt
      have hc := (h4 j hlt).2
      have hE := (HRC.out j hjc hlt).2
      obtain ⟨a2, cap2, e2, g1, g2, g3⟩ := hE
      unfold maxLen at g2
      rw [e2] at hc
      clear h4 HRC
      go_wp2
      go_loopw [7] (fun i wr => ∃ k : Nat, k ≤ cs[j].2.length ∧ i = .int .i64 k ∧ wr = w.alloc (Obj.cells #[.int .i64 n, .slice (some ⟨b, off, none⟩) rv.length cap] 26) ∧ Hid (∀ b' (h' : b' < cs[j].2.length), b' < k → cs[j].2[b'].1 ≠ line)) (fun i _ => cs[j].2.length - (intOf i).toNat)
      case atStart => exact ⟨0, Nat.zero_le _, rfl, rfl, fun a h h' => by omega⟩
      case round =>
        obtain ⟨k, hk, rfl, rfl, hnk⟩ := hrel
        by_cases hkt : k < cs[j].2.length
        · rcases g3 with g3 | ⟨b2, off2, rfl, g4⟩
          · rw [g3] at hkt; simp at hkt
          have hd := (g4 k hkt).1
          clear g4
          by_cases hq : cs[j].2[k].1 = line
          · have HQ : Hid (cs[j].2[k].1 = line) := hq
            go_wp2
            go_ret2
            exact ⟨_, _, rfl, .inr ⟨j, k, rfl, rfl, hjc, hkt, HQ.out, hno.out, hnk.out⟩, HB.out⟩
          · have HQ : Hid (¬ cs[j].2[k].1 = line) := hq
            go_wp2
            go_roundw
            case rel =>
              refine ⟨k + 1, by omega, by go_num, by trivial, fun b' h' hb' => ?_⟩
              by_cases hbk : b' < k
              · exact hnk.out b' h' hbk
              · obtain rfl : b' = k := by omega
                exact HQ.out
            case measure => simp [intOf]; omega
        · obtain rfl : k = cs[j].2.length := by omega
          clear g3
          have hno' : NoneTo cs line (j + 1) := by
            intro a ha haj b hb
            by_cases hlt' : a < j
            · exact hno.out a ha hlt' b hb
            · obtain rfl : a = j := by omega
              exact hnk.out b hb hb
          have HN' : Hid _ := hno'
          clear hno'
          go_wp2
          go_roundw
          case rel => exact ⟨j + 1, by omega, by go_num, by trivial, HN'.out⟩
          case measure => simp [intOf]; omega
    · obtain rfl : j = rv.length := by omega
      clear h3 HRC
      go_wp2
      go_ret2
      exact ⟨-1, -1, rfl, .inl ⟨rfl, rfl, HN.out hno.out⟩, HB.out⟩
end Go.Proofs.Ytcbeaimpmjljjaa
