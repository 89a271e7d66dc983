/- Hops; no condition. -/
import Derived.Test.YtfaflnhembceoaaDsE
import Derived.Test.YtfaflnhembceoaaRjC
import Derived.Test.YtfaflnhembceoaaRtN
namespace Go.Proofs.Ytfaflnhembceoaa
open Go.RowKit Go.ChangeShapes Go.WideShapes Go.ChangeAt
set_option linter.unusedVariables false
set_option linter.unusedSimpArgs false
set_option maxRecDepth 8000
set_option maxHeartbeats 1600000 in
theorem sameI_c (v v' : Value) (xs ys : List Int) (w : World) (h : Rd .i64 w v xs) (h' : Rd .i64 w v' ys) :
   Calls Try.prog 14 #[v, v'] w fun e w' => e = .returned (.bool (decide (xs = ys))) ∧ Below w.heap.size w w' := by
  obtain ⟨a, cap, rfl, h1, h2, h3⟩ := h
  obtain ⟨a', cap', rfl, h1', h2', h3'⟩ := h'
  unfold maxLen at h2 h2'
  by_cases hne : xs.length = ys.length
  · have hneb : ((xs.length : Int) != (ys.length : Int)) = false := by simp [hne]
    go_enter Try.func14, Try.ntmps14
    go_wp2
    go_loopw [5] (fun i wr => ∃ j : Nat, j ≤ xs.length ∧ i = .int .i64 j ∧ Hid (∀ t, t < j → xs.getD t 0 = ys.getD t 0) ∧ Below w.heap.size w wr) (fun i _ => xs.length - (intOf i).toNat)
    case atStart => exact ⟨0, Nat.zero_le _, rfl, fun t ht => by omega, Below.refl _ _⟩
    case round =>
      obtain ⟨j, hj, rfl, hall, hbr⟩ := hrel
      by_cases hlt : j < xs.length
      · rcases h3 with h3 | ⟨b, off, rfl, h4⟩
        · subst h3; simp at hlt
        rcases h3' with h3' | ⟨b', off', rfl, h4'⟩
        · subst h3'; simp at hne; subst hne; simp at hlt
        have hc : wr.cell? ⟨b, off + j, none⟩ = some (.int .i64 (xs.getD j 0)) := by
          have := h4 j hlt
          rw [hbr.cell (block_lt_of_cell this)]; exact this
        have hc' : wr.cell? ⟨b', off' + j, none⟩ = some (.int .i64 (ys.getD j 0)) := by
          have := h4' j (by omega)
          rw [hbr.cell (block_lt_of_cell this)]; exact this
        have hi : (0 : Int) ≤ (j : Int) := by omega
        have hi2 : (j : Int) < (xs.length : Int) := by omega
        have hi3 : (j : Int) < (ys.length : Int) := by omega
        have hjy : j < ys.length := by omega
        have HN : Hid (xs.length = ys.length) := hne
        clear h4 h4' hne
        go_wp2
        go_quiet (fail)
        go_wp2
        · have hn : (xs[j] != ys[j]) = true := by assumption
          have hab : decide (xs = ys) = false := by
            simp only [decide_eq_false_iff_not]
            intro h; subst h; simp at hn
          go_ret
          exact ⟨by rw [hab]; rfl, below_drewN hbr _⟩
        · have he : (xs[j] != ys[j]) = false := by assumption
          go_roundw
          case rel =>
            refine ⟨j + 1, by omega, by go_num, fun t ht => ?_, below_drewN hbr _⟩
            by_cases hjk : t < j
            · exact hall.out t hjk
            · obtain rfl : t = j := by omega
              simpa [List.getElem?_eq_getElem hlt, List.getElem?_eq_getElem hjy] using he
          case measure => simp [intOf]; omega
      · obtain rfl : j = xs.length := by omega
        have hab : decide (xs = ys) = true := by simp only [decide_eq_true_eq]; exact ext_getD hne hall.out
        have HN : Hid (xs.length = ys.length) := hne
        clear h3 h3' hne
        go_wp2
        go_ret
        exact ⟨by rw [hab]; rfl, hbr⟩
  · have hneb : ((xs.length : Int) != (ys.length : Int)) = true := by rw [bne_iff_ne]; omega
    have hab : decide (xs = ys) = false := by
      simp only [decide_eq_false_iff_not]
      intro h; subst h; exact hne rfl
    have HN : Hid (¬ xs.length = ys.length) := hne
    clear hne h3 h3'
    go_enter Try.func14, Try.ntmps14
    go_wp2
    go_ret
    exact ⟨by rw [hab]; rfl, Below.refl _ _⟩
set_option maxHeartbeats 1600000 in
theorem withinL_c (v : Value) (zs : List Int) (x : Int) (w : World) (h : Rd .i64 w v zs) : Calls Try.prog 15 #[v, .int .i64 x] w fun e w' => e = .returned (.bool (decide (x ∈ zs))) ∧ w' = w := by
  obtain ⟨a, cap, rfl, h1, h2, h3⟩ := h
  unfold maxLen at h2
  obtain ⟨PW, hPW⟩ : ∃ P : World → Prop, ∀ W, P W ↔ W = w := ⟨_, fun _ => Iff.rfl⟩
  have HPW : Hid (∀ W, PW W ↔ W = w) := hPW
  clear hPW
  go_enter Try.func15, Try.ntmps15
  go_wp2
  go_loopw [5] (fun i wr => ∃ j : Nat, j ≤ zs.length ∧ i = .int .i64 j ∧ Hid (∀ t (ht : t < j) (h : t < zs.length), zs[t] ≠ x) ∧ Hid (PW wr)) (fun i _ => zs.length - (intOf i).toNat)
  case atStart => exact ⟨0, Nat.zero_le _, rfl, fun t ht => by omega, (HPW.out _).2 rfl⟩
  case round =>
    obtain ⟨j, hj, rfl, hA, hw⟩ := hrel
    have hww := (HPW.out _).1 hw.out
    clear hw
    subst hww
    by_cases hlt : j < zs.length
    case neg =>
      obtain rfl : j = zs.length := by omega
      have HN : Hid (decide (x ∈ zs) = false) := by
        show _ = _
        rw [decide_eq_false_iff_not]
        intro hm
        obtain ⟨t, ht, e⟩ := List.getElem_of_mem hm
        exact hA.out t ht ht e
      clear h3
      go_wp2
      go_ret
      exact ⟨by rw [HN.out]; rfl, rfl⟩
    case pos =>
    rcases h3 with h3 | ⟨b, off, rfl, h4⟩
    · subst h3; simp at hlt
    obtain ⟨z, hz⟩ : ∃ z, zs[j] = z := ⟨_, rfl⟩
    have HZ : Hid (zs[j] = z) := hz
    have hc : wr.cell? ⟨b, off + j, none⟩ = some (.int .i64 z) := by
      have := h4 j hlt
      rw [this]
      simp [List.getElem?_eq_getElem hlt, hz]
    have hi : (0 : Int) ≤ (j : Int) := by omega
    have hi2 : (j : Int) < (zs.length : Int) := by omega
    clear h4 hz
    by_cases c1 : z = x
    · have c1d : (z == x) = true := by simp [c1]
      have HN : Hid (decide (x ∈ zs) = true) := by show _ = _; rw [decide_eq_true_eq, ← c1, ← HZ.out]; exact List.getElem_mem hlt
      clear c1
      go_wp2
      go_ret
      exact ⟨by rw [HN.out]; rfl, rfl⟩
    · have c1d : (z == x) = false := by simp [c1]
      have HN : Hid (∀ t (ht : t < j + 1) (h : t < zs.length), zs[t] ≠ x) := fun t ht h => by
          by_cases e : t = j
          · subst e; rw [HZ.out]; exact c1
          · exact hA.out t (by omega) h
      clear c1
      go_wp2
      go_roundw
      case rel => exact ⟨j + 1, by omega, by go_num, HN.out, (HPW.out _).2 rfl⟩
      case measure => simp [intOf]; omega
/-- the hops of a call: none twice, not the one that calls, few -/
def HpI (f : Nat) (hops : List Int) : Prop := hops.Nodup ∧ ¬ (f : Int) ∈ hops ∧ hops.length ≤ 6
theorem goR_hops (cs : Sbs) (f : Nat) : ∀ (m t : Nat) (hops : List Int), HpI f hops → HpI f (goR cs f m t hops).2.2 ∧ (((goR cs f m t hops).2.2 = hops ∧ (goR cs f m t hops).2.1 = t) ∨ ∃ tl, (goR cs f m t hops).2.2 = hops ++ (t : Int) :: tl)
  | 0, t, hops, h => ⟨h, .inl ⟨rfl, rfl⟩⟩
  | m + 1, t, hops, h => by
    unfold goR
    by_cases h1 : stopB f t hops = true
    · rw [if_pos h1]; exact ⟨h, .inl ⟨rfl, rfl⟩⟩
    · rw [if_neg h1]
      by_cases h2 : (turnF (prvB cs f) f (cs.getD t sb0)).1 = 0
      · rw [if_pos h2]
        have h1' : stopB f t hops = false := by simpa using h1
        unfold stopB at h1'
        simp only [Bool.or_eq_false_iff, decide_eq_false_iff_not] at h1'
        obtain ⟨a, b, c⟩ := h1'
        have hn : HpI f (hops ++ [(t : Int)]) := by
          refine ⟨?_, ?_, ?_⟩
          · rw [List.nodup_append]
            exact ⟨h.1, by simp, fun x hx y hy e => by rw [List.mem_singleton] at hy; subst hy; subst e; exact b hx⟩
          · rw [List.mem_append, List.mem_singleton]
            rintro (q | q)
            · exact h.2.1 q
            · exact a q.symm
          · rw [List.length_append]; simp only [List.length_singleton]; omega
        have ih := goR_hops cs f m (turnF (prvB cs f) f (cs.getD t sb0)).2.toNat (hops ++ [(t : Int)]) hn
        refine ⟨ih.1, .inr ?_⟩
        rcases ih.2 with ⟨q, -⟩ | ⟨tl, q⟩
        · exact ⟨[], by rw [q]⟩
        · exact ⟨_, by rw [q, List.append_assoc]; rfl⟩
      · rw [if_neg h2]; exact ⟨h, .inl ⟨rfl, rfl⟩⟩
theorem turn_code (pv : Bool) (f : Int) (s : Sb) : (turnF pv f s).1 = 0 ∨ (turnF pv f s).1 = 1 ∨ (turnF pv f s).1 = 2 ∨ (turnF pv f s).1 = 3 ∨ (turnF pv f s).1 = 4 ∨ (turnF pv f s).1 = 6 := by
  unfold turnF; repeat' split
  all_goals simp
theorem goR_code (cs : Sbs) (f : Nat) : ∀ (m t : Nat) (hops : List Int), (goR cs f m t hops).1 ≠ 8 ∧ (goR cs f m t hops).1 ≠ 5
  | 0, t, hops => by unfold goR; simp
  | m + 1, t, hops => by
    unfold goR
    split
    · simp
    · split
      · exact goR_code cs f m _ _
      · have := turn_code (prvB cs f) f (cs.getD t sb0)
        rename_i h
        constructor <;> intro e <;> simp only at e <;> omega
/-- what FnHops asks of an outcome -/
theorem rt_hops (cs : Sbs) (f t : Int) : (((rtF cs f t).1 = 8 ∨ (rtF cs f t).1 = 5) → (rtF cs f t).2.2 = []) ∧ (¬ ((rtF cs f t).1 = 8 ∨ (rtF cs f t).1 = 5) → (rtF cs f t).2.2.Nodup ∧ ¬ f ∈ (rtF cs f t).2.2 ∧ (rtF cs f t).2.2.length ≤ 6 ∧ (((rtF cs f t).2.2 = [] ∧ (rtF cs f t).2.1 = t) ∨ ∃ tl, (rtF cs f t).2.2 = t :: tl)) := by
  unfold rtF
  by_cases hg : goodB cs f t
  · rw [if_pos hg]
    obtain ⟨-, ⟨f0, -⟩, ⟨t0, -⟩, -⟩ := hg
    by_cases hb : 0 ≤ hasV (fsOf cs f.toNat) 4
    · rw [if_pos hb]; exact ⟨fun _ => rfl, fun h => absurd (.inr rfl) h⟩
    · rw [if_neg hb]
      have h1 := goR_code cs f.toNat 7 t.toNat []
      have h2 := goR_hops cs f.toNat 7 t.toNat [] ⟨List.nodup_nil, by simp, by simp⟩
      have ef : (f.toNat : Int) = f := Int.toNat_of_nonneg f0
      have et : (t.toNat : Int) = t := Int.toNat_of_nonneg t0
      unfold HpI at h2
      rw [ef, et] at h2
      refine ⟨fun h => ?_, fun _ => ⟨h2.1.1, h2.1.2.1, h2.1.2.2, by simpa using h2.2⟩⟩
      rcases h with h | h
      · exact absurd h h1.1
      · exact absurd h h1.2
  · rw [if_neg hg]; exact ⟨fun _ => rfl, fun h => absurd (.inl rfl) h⟩
theorem rt_two : rtF [sb0, sb0] 0 1 = (1, 1, []) := by decide +kernel
end Go.Proofs.Ytfaflnhembceoaa
