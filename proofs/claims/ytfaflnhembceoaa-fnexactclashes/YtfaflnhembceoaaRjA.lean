/- Parts of a route, the program's way; no condition. -/
import Derived.Test.YtfaflnhembceoaaOSc
import Derived.Test.YtfaflnhembceoaaRtN
namespace Go.Proofs.Ytfaflnhembceoaa
open Go.RowKit Go.ChangeShapes Go.WideShapes Go.ChangeAt
set_option linter.unusedVariables false
set_option linter.unusedSimpArgs false
set_option maxRecDepth 8000
theorem ftB_pos {n : Int} {x : Int × Int} (h : ftB n x = true) : 0 ≤ x.2 := by
  rw [ftB] at h
  by_cases h1 : ptB x.1 = true
  · rw [if_pos h1] at h; exact (of_decide_eq_true h).1
  · rw [if_neg h1] at h
    by_cases h2 : x.1 = 4 ∨ x.1 = 6 ∨ x.1 = 7
    · rw [if_pos h2] at h; have := of_decide_eq_true h; omega
    · rw [if_neg h2] at h; cases h
theorem hasV_any {n : Int} : ∀ (fs : Fts) (k : Int), (∀ x ∈ fs, ftB n x = true) → decide (0 ≤ hasV fs k) = fs.any (fun x => x.1 == k)
  | [], k, _ => by simp [hasV]
  | f :: r, k, hf => by
    have ih := hasV_any r k (fun x hx => hf x (by simp [hx]))
    have h0 := ftB_pos (hf f (by simp))
    by_cases e : f.1 = k
    · rw [hasV, if_pos e]; simp [e, h0]
    · rw [hasV, if_neg e, ih]; simp [e]
theorem tu_eq {n : Int} {p q : Bool} {fs : Fts} {pv : Bool} {x : Int} (hf : ∀ y ∈ fs, ftB n y = true) : tuF p q fs pv x = turnF pv x (p, q, fs) := by
  have key : ∀ k (a b : Int × Int), (if fs.any (fun x => x.1 == k) = true then a else b) = (if 0 ≤ hasV fs k then a else b) := fun k a b => by
    rw [← hasV_any fs k hf]; simp
  unfold tuF turnF owF buF onF
  simp only [key]
set_option maxHeartbeats 1600000 in
theorem indexI_c (v : Value) (zs : List Int) (x : Int) (w : World) (h : Rd .i64 w v zs) : Calls Try.prog 72 #[v, .int .i64 x] w fun e w' => (∃ r : Int, e = .returned (.int .i64 r) ∧ (0 ≤ r ↔ x ∈ zs)) ∧ w' = w := by
  obtain ⟨a, cap, rfl, h1, h2, h3⟩ := h
  unfold maxLen at h2
  obtain ⟨m, hm⟩ : ∃ m, zs.length = m := ⟨_, rfl⟩
  have HM : Hid (zs.length = m) := hm
  have H3 : Hid (zs = [] ∨ ∃ b off, a = some ⟨b, off, none⟩ ∧ ∀ i, i < zs.length → w.cell? ⟨b, off + i, none⟩ = some (.int .i64 (zs.getD i 0))) := h3
  rw [hm] at h1 ⊢
  clear hm h3
  go_enter Try.func72, Try.ntmps72
  go_wp2
  go_loopw [8] (fun i wr => wr = w ∧ ∃ j : Nat, j ≤ m ∧ i = .int .i64 j ∧ Hid (∀ t, t < j → zs.getD t 0 ≠ x)) (fun i _ => m - (intOf i).toNat)
  case atStart => exact ⟨rfl, 0, Nat.zero_le _, rfl, fun t ht => by omega⟩
  case round =>
    obtain ⟨rfl, j, hj, rfl, hA⟩ := hrel
    by_cases hlt : j < m
    case neg =>
      obtain rfl : m = j := by omega
      have HN : Hid (¬ x ∈ zs) := fun hx => by
        obtain ⟨i, hi, e⟩ := List.getElem_of_mem hx
        refine hA.out i (by have := HM.out; omega) ?_
        simp [List.getElem?_eq_getElem hi, e]
      go_wp2
      go_ret
      exact ⟨⟨_, rfl, ⟨fun h => by omega, fun h => absurd h HN.out⟩⟩, rfl⟩
    case pos =>
    have hjl : j < zs.length := by rw [HM.out]; exact hlt
    obtain ⟨b, off, rfl, h4⟩ : ∃ b off, a = some ⟨b, off, none⟩ ∧ _ := by
      rcases H3.out with h | h
      · rw [h] at hjl; simp at hjl
      · exact h
    have hc := h4 j hjl
    obtain ⟨y, hy⟩ : ∃ y, zs.getD j 0 = y := ⟨_, rfl⟩
    have HR : Hid (zs.getD j 0 = y) := hy
    rw [hy] at hc
    clear h4 hy
    by_cases hk : y = x
    · have HF : Hid (x ∈ zs) := by
        have : zs[j] = x := by
          have := HR.out
          simp [List.getElem?_eq_getElem hjl] at this
          rw [this]; exact hk
        show x ∈ zs
        rw [← this]; exact List.getElem_mem hjl
      have y2 : (x == y) = true := by simp [hk]
      clear hk
      go_wp2
      go_ret
      exact ⟨⟨_, rfl, ⟨fun _ => HF.out, fun _ => by omega⟩⟩, rfl⟩
    · have HF : Hid (∀ t, t < j + 1 → zs.getD t 0 ≠ x) := fun t ht => by
        by_cases e : t < j
        · exact hA.out t e
        · obtain rfl : t = j := by omega
          rw [HR.out]; exact hk
      have y2 : (x == y) = false := by
        rw [beq_eq_false_iff_ne]; exact fun e => hk e.symm
      clear hk
      go_wp2
      go_roundw
      case rel => exact ⟨by trivial, j + 1, by omega, by go_num, HF.out⟩
      case measure => simp [intOf]; omega
theorem containsI_c (v : Value) (zs : List Int) (x : Int) (w : World) (h : Rd .i64 w v zs) : Calls Try.prog 69 #[v, .int .i64 x] w fun e w' => e = .returned (.bool (decide (x ∈ zs))) ∧ w' = w := by
  have HC := indexI_c v zs x w h
  have HC2 : Hid (Calls Try.prog 72 #[v, .int .i64 x] w fun e w' => (∃ r : Int, e = .returned (.int .i64 r) ∧ (0 ≤ r ↔ x ∈ zs)) ∧ w' = w) := HC
  obtain ⟨a, cap, rfl, -⟩ := h
  clear HC
  go_enter Try.func69, Try.ntmps69
  go_wp2_with (fail)
  refine HC2.out.mono ?_
  rintro e w2 ⟨⟨r, rfl, hr⟩, hw⟩
  rw [hw]
  have HF : Hid (decide (x ∈ zs) = decide (0 ≤ r)) := by
    show decide (x ∈ zs) = decide (0 ≤ r)
    rw [Bool.eq_iff_iff]; simp [hr]
  clear hr hw
  go_wp2
  go_ret
  exact ⟨by rw [HF.out]; rfl, rfl⟩
theorem rt_finR {w W : World} {R : Nat} {cells : Array Value} {v : Value} {hops : List Int} (c a : Int) (hR : w.heap.size ≤ R) (hk : Blk W R cells 29) (hc : cells.size = 3) (ho : Ow .i64 3 (R + 1) W v hops) (hb : Below w.heap.size w W) :
    Blk (((W.setCell ⟨R, 0, none⟩ (.int .i64 c)).setCell ⟨R, 1, none⟩ (.int .i64 a)).setCell ⟨R, 2, none⟩ v) R (O3 c a v) 29 ∧
    Ow .i64 3 w.heap.size (((W.setCell ⟨R, 0, none⟩ (.int .i64 c)).setCell ⟨R, 1, none⟩ (.int .i64 a)).setCell ⟨R, 2, none⟩ v) v hops ∧
    Below w.heap.size w (((W.setCell ⟨R, 0, none⟩ (.int .i64 c)).setCell ⟨R, 1, none⟩ (.int .i64 a)).setCell ⟨R, 2, none⟩ v) := by
  obtain ⟨l⟩ := cells
  match l, hc with
  | [x0, x1, x2], _ =>
    have hne : v.ownBlock = none ∨ v.ownBlock ≠ some R := by
      rcases hq : v.ownBlock with _ | k
      · exact .inl rfl
      · exact .inr (fun h => by simp at h; have := (World.ownsRow.lt ho k hq).1; omega)
    have Q := ((hk.set 0 (.int .i64 c)).set 1 (.int .i64 a)).set 2 v
    have g1 := World.ownsRow.kept ho (grown_set W R 0 (.int .i64 c)) hne
    have g2 := World.ownsRow.kept g1 (grown_set _ R 1 (.int .i64 a)) hne
    have g3 := World.ownsRow.kept g2 (grown_set _ R 2 v) hne
    exact ⟨Q, Ow.mono g3 (by omega), ((hb.setCell (by exact hR) _).setCell (by exact hR) _).setCell (by exact hR) _⟩
/-- where a call goes, both sides right -/
def rgF (cs : Sbs) (f t : Nat) : Out := if 0 ≤ hasV (fsOf cs f) 4 then (5, (f : Int), []) else goR cs f 7 t []
end Go.Proofs.Ytfaflnhembceoaa
