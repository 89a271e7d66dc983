/- The model's BookOk; no condition. -/
import Derived.Test.YtmfmlbiplagmiaaDoorBkh
import Derived.Test.YtmfmlbiplagmiaaDoorWin
namespace Go.Proofs.YtmfmlbiplagmiaaDoor
open Go.RowKit Go.ChangeShapes Go.WideShapes Go.ChangeAt
set_option linter.unusedVariables false
set_option linter.unusedSimpArgs false
set_option maxRecDepth 8000

/-- a talk of lines and circuits that are there -/
def tkB (nl nc : Nat) (t : Tk) : Bool := decide (0 ≤ t.1 ∧ t.1 ≤ (nl : Int) - 1) && (decide (0 ≤ t.2.1 ∧ t.2.1 ≤ (nl : Int) - 1) && decide (-1 ≤ t.2.2 ∧ t.2.2 ≤ (nc : Int) - 1))
/-- a number of Lines or Circuits -/
def nuB (z : Int) : Bool := decide (-1 ≤ z ∧ z ≤ 30)
/-- a book that may be read -/
def bkB (ts : List Tk) (ls cs : List Int) : Bool := decide (ts.length ≤ 30) && (decide (ls.length ≤ 30) && (decide (cs.length ≤ 30) && (ts.all (tkB ls.length cs.length) && (ls.all nuB && cs.all nuB))))
theorem all_no {α : Type} {f : α → Bool} {ls : List α} {k : Nat} (hk : k < ls.length) (h : f ls[k] = false) : ls.all f = false := by
  rw [List.all_eq_false]; exact ⟨ls[k], List.getElem_mem hk, by rw [h]; simp⟩
theorem all_yes {α : Type} {f : α → Bool} {ls : List α} (h : ∀ k (hk : k < ls.length), f ls[k] = true) : ls.all f = true := by
  rw [List.all_eq_true]
  intro x hx
  obtain ⟨k, hk, rfl⟩ := List.getElem_of_mem hx
  exact h k hk
theorem bkB_t {ts : List Tk} {ls cs : List Int} (h : ¬ ts.length ≤ 30) : bkB ts ls cs = false := by unfold bkB; rw [decide_eq_false h]; rfl
theorem bkB_l {ts : List Tk} {ls cs : List Int} (h : ¬ ls.length ≤ 30) : bkB ts ls cs = false := by unfold bkB; rw [decide_eq_false h]; simp
theorem bkB_c {ts : List Tk} {ls cs : List Int} (h : ¬ cs.length ≤ 30) : bkB ts ls cs = false := by unfold bkB; rw [decide_eq_false h]; simp
theorem bkB_tk {ts : List Tk} {ls cs : List Int} {k : Nat} (hk : k < ts.length) (h : tkB ls.length cs.length ts[k] = false) : bkB ts ls cs = false := by unfold bkB; rw [all_no hk h]; simp
theorem bkB_nl {ts : List Tk} {ls cs : List Int} {k : Nat} (hk : k < ls.length) (h : nuB ls[k] = false) : bkB ts ls cs = false := by unfold bkB; rw [all_no hk h]; simp
theorem bkB_nc {ts : List Tk} {ls cs : List Int} {k : Nat} (hk : k < cs.length) (h : nuB cs[k] = false) : bkB ts ls cs = false := by unfold bkB; rw [all_no hk h]; simp
theorem bkB_yes {ts : List Tk} {ls cs : List Int} (h1 : ts.length ≤ 30) (h2 : ls.length ≤ 30) (h3 : cs.length ≤ 30) (h4 : ∀ k (hk : k < ts.length), tkB ls.length cs.length ts[k] = true) (h5 : ∀ k (hk : k < ls.length), nuB ls[k] = true) (h6 : ∀ k (hk : k < cs.length), nuB cs[k] = true) : bkB ts ls cs = true := by
  unfold bkB; rw [decide_eq_true h1, decide_eq_true h2, decide_eq_true h3, all_yes h4, all_yes h5, all_yes h6]; rfl
theorem meas18 {j n : Nat} (h : j < n) : n - ((j : Int) + 1).toNat < n - (j : Int).toNat := by omega
theorem rd_at {w : World} {v : Value} {zs : List Int} (h : Rd .i64 w v zs) {j : Nat} (hj : j < zs.length) : ∃ b off cap, v = .slice (some ⟨b, off, none⟩) zs.length cap ∧ zs.length ≤ cap ∧ cap ≤ maxLen ∧ w.cell? ⟨b, off + j, none⟩ = some (.int .i64 zs[j]) := by
  obtain ⟨a, cap, rfl, h1, h2, h3⟩ := h
  rcases h3 with h3 | ⟨b, off, rfl, h4⟩
  · subst h3; simp at hj
  · exact ⟨b, off, cap, rfl, h1, h2, by rw [h4 j hj]; simp [List.getD, hj]⟩
theorem rg_at {w : World} {v : Value} {ls : List Tk} (h : Rg 3 tkC w v ls) {j : Nat} (hj : j < ls.length) : ∃ b off cap, v = .slice (some ⟨b, off, none⟩) ls.length cap ∧ ls.length ≤ cap ∧ cap ≤ maxLen ∧ w.cell? ⟨b, off + j * 3, none⟩ = some (.int .i64 ls[j].1) ∧ w.cell? ⟨b, off + j * 3 + 1, none⟩ = some (.int .i64 ls[j].2.1) ∧ w.cell? ⟨b, off + j * 3 + 2, none⟩ = some (.int .i64 ls[j].2.2) := by
  obtain ⟨a, cap, rfl, h1, h2, h3⟩ := h
  rcases h3 with h3 | ⟨b, off, rfl, h4⟩
  · subst h3; simp at hj
  · exact ⟨b, off, cap, rfl, h1, h2, h4 j hj 0 _ rfl, h4 j hj 1 _ rfl, h4 j hj 2 _ rfl⟩
set_option maxHeartbeats 3200000 in
theorem okM_c (va vl vc : Value) (ts : List Tk) (ls cs : List Int) (w : World) (h : Rbk w va vl vc ts ls cs) :
   Calls Tryd.prog 14 #[.agg (B3 va vl vc)] w fun e w' => e = .returned (.bool (bkB ts ls cs)) ∧ Below w.heap.size w w' := by
  obtain ⟨W1, hW1⟩ : ∃ W1, w.alloc (Obj.cells (B3 va vl vc) 27) = W1 := ⟨_, rfl⟩
  have hb : Below w.heap.size w W1 := hW1 ▸ (Below.refl _ _).alloc (Nat.le_refl _) _
  have HB : Hid (Below w.heap.size w W1) := hb
  have K0 : Hid (Blk W1 w.heap.size (B3 va vl vc) 27) := by show Blk _ _ _ _; rw [← hW1]; exact Blk.new _ _ _
  have HR : Hid (Rbk w va vl vc ts ls cs) := h
  have HT : Hid (¬ ts.length ≤ 30 → bkB ts ls cs = false) := bkB_t
  have HL : Hid (¬ ls.length ≤ 30 → bkB ts ls cs = false) := bkB_l
  have HC : Hid (¬ cs.length ≤ 30 → bkB ts ls cs = false) := bkB_c
  have HTK : Hid (∀ k (hk : k < ts.length), tkB ls.length cs.length ts[k] = false → bkB ts ls cs = false) := fun k hk e => bkB_tk hk e
  have HNL : Hid (∀ k (hk : k < ls.length), nuB ls[k] = false → bkB ts ls cs = false) := fun k hk e => bkB_nl hk e
  have HNC : Hid (∀ k (hk : k < cs.length), nuB cs[k] = false → bkB ts ls cs = false) := fun k hk e => bkB_nc hk e
  have HYES : Hid (ts.length ≤ 30 → ls.length ≤ 30 → cs.length ≤ 30 → (∀ k (hk : k < ts.length), tkB ls.length cs.length ts[k] = true) → (∀ k (hk : k < ls.length), nuB ls[k] = true) → (∀ k (hk : k < cs.length), nuB cs[k] = true) → bkB ts ls cs = true) := bkB_yes
  obtain ⟨Q, hQ⟩ : ∃ Q, bkB ts ls cs = Q := ⟨_, rfl⟩
  rw [hQ] at HT HL HC HTK HNL HNC HYES ⊢
  have ha := h.1
  have hl := h.2.1
  have hc := h.2.2
  obtain ⟨a, cap, rfl, -⟩ := ha
  obtain ⟨a', cap', rfl, -⟩ := hl
  obtain ⟨a'', cap'', rfl, -⟩ := hc
  have x0 := K0.out.cell 0
  have x1 := K0.out.cell 1
  have x2 := K0.out.cell 2
  simp at x0 x1 x2
  have HW1 : Hid (_ = W1) := hW1
  have hsz : w.heap.size < W1.heap.size := K0.out.lt
  clear hb hW1 h hQ
  go_enter Tryd.func14, Tryd.ntmps14
  by_cases h1 : ts.length ≤ 30
  case neg =>
    obtain rfl := HT.out h1
    have d1 : decide ((30 : Int) < (ts.length : Int)) = true := decide_eq_true (by omega)
    have d1' : (30 : Int) < (ts.length : Int) := by omega
    clear h1
    go_wp2_with (rw [HW1.out])
    go_ret
    exact ⟨rfl, HB.out⟩
  by_cases h2 : ls.length ≤ 30
  case neg =>
    obtain rfl := HL.out h2
    have d1 : ((30 : Int) < (ts.length : Int)) = False := eq_false (by omega)
    have d2 : (30 : Int) < (ls.length : Int) := by omega
    clear h1 h2
    go_wp2_with (rw [HW1.out])
    go_ret
    exact ⟨rfl, HB.out⟩
  by_cases h3 : cs.length ≤ 30
  case neg =>
    obtain rfl := HC.out h3
    have d1 : ((30 : Int) < (ts.length : Int)) = False := eq_false (by omega)
    have d2 : ((30 : Int) < (ls.length : Int)) = False := eq_false (by omega)
    have d3 : (30 : Int) < (cs.length : Int) := by omega
    clear h1 h2 h3
    go_wp2_with (rw [HW1.out])
    go_ret
    exact ⟨rfl, HB.out⟩
  have HLE : Hid (ts.length ≤ 30 ∧ ls.length ≤ 30 ∧ cs.length ≤ 30) := ⟨h1, h2, h3⟩
  have d1 : ((30 : Int) < (ts.length : Int)) = False := eq_false (by omega)
  have d2 : ((30 : Int) < (ls.length : Int)) = False := eq_false (by omega)
  have d3 : ((30 : Int) < (cs.length : Int)) = False := eq_false (by omega)
  clear h1 h2 h3
  go_wp2_with (rw [HW1.out])
  clear d1 d2 d3 x0 x1 x2
  go_loopw [3] (fun i wr => ∃ j : Nat, j ≤ ts.length ∧ i = .int .i64 j ∧ Hid (∀ k (hk : k < ts.length), k < j → tkB ls.length cs.length ts[k] = true) ∧ Hid (Below W1.heap.size W1 wr)) (fun i _ => ts.length - (intOf i).toNat)
  case atStart => exact ⟨0, Nat.zero_le _, rfl, fun k hk h => by omega, Below.refl _ _⟩
  case round =>
    obtain ⟨j, hj, rfl, hA, hB⟩ := hrel
    have hk0 := K0.out.below hB.out K0.out.lt
    have KR : Hid (Blk wr w.heap.size (B3 (.slice a ts.length cap) (.slice a' ls.length cap') (.slice a'' cs.length cap'')) 27) := hk0
    have x0 := hk0.cell 0
    have x1 := hk0.cell 1
    have x2 := hk0.cell 2
    simp at x0 x1 x2
    have HBW : Hid (Below w.heap.size w wr) := belowCall HB.out hB.out HB.out.size
    by_cases hlt : j < ts.length
    case neg =>
      have HA : Hid (∀ k (hk : k < ts.length), tkB ls.length cs.length ts[k] = true) := fun k hk => hA.out k hk (by omega)
      have hnl : ¬ ((j : Int) < (ts.length : Int)) := by omega
      have HBX : Hid (Below W1.heap.size W1 wr) := hB.out
      clear hlt hj hA hk0 hB
      go_wp2
      clear x0 x1 x2 hnl
      go_loopw [5] (fun i wr => ∃ j : Nat, j ≤ ls.length ∧ i = .int .i64 j ∧ Hid (∀ k (hk : k < ls.length), k < j → nuB ls[k] = true) ∧ Hid (Below W1.heap.size W1 wr)) (fun i _ => ls.length - (intOf i).toNat)
      case atStart => exact ⟨0, Nat.zero_le _, rfl, fun k hk h => by omega, HBX.out⟩
      case round =>
        obtain ⟨j, hj, rfl, hA, hB⟩ := hrel
        have hk0 := K0.out.below hB.out K0.out.lt
        have x1 := hk0.cell 1
        have x2 := hk0.cell 2
        simp at x1 x2
        have HBW : Hid (Below w.heap.size w wr) := belowCall HB.out hB.out HB.out.size
        by_cases hlt : j < ls.length
        case neg =>
          have HA5 : Hid (∀ k (hk : k < ls.length), nuB ls[k] = true) := fun k hk => hA.out k hk (by omega)
          have hnl : ¬ ((j : Int) < (ls.length : Int)) := by omega
          have HBX : Hid (Below W1.heap.size W1 wr) := hB.out
          clear hlt hj hA hk0 hB
          go_wp2
          clear x1 x2 hnl
          go_loopw [6] (fun i wr => ∃ j : Nat, j ≤ cs.length ∧ i = .int .i64 j ∧ Hid (∀ k (hk : k < cs.length), k < j → nuB cs[k] = true) ∧ Hid (Below W1.heap.size W1 wr)) (fun i _ => cs.length - (intOf i).toNat)
          case atStart => exact ⟨0, Nat.zero_le _, rfl, fun k hk h => by omega, HBX.out⟩
          case round =>
            obtain ⟨j, hj, rfl, hA, hB⟩ := hrel
            have hk0 := K0.out.below hB.out K0.out.lt
            have x1 := hk0.cell 1
            have x2 := hk0.cell 2
            simp at x1 x2
            have HBW : Hid (Below w.heap.size w wr) := belowCall HB.out hB.out HB.out.size
            by_cases hlt : j < cs.length
            case neg =>
              have HA6 : Hid (∀ k (hk : k < cs.length), nuB cs[k] = true) := fun k hk => hA.out k hk (by omega)
              have hnl : ¬ ((j : Int) < (cs.length : Int)) := by omega
              have HBX : Hid (Below W1.heap.size W1 wr) := hB.out
              clear hlt hj hA hk0 hB
              obtain rfl : Q = true := HYES.out HLE.out.1 HLE.out.2.1 HLE.out.2.2 HA.out HA5.out HA6.out
              go_wp2
              go_ret
              exact ⟨rfl, HBW.out⟩
            case pos =>
            obtain ⟨b, off, cp, he, -, -, c0⟩ := rd_at (HR.out.below HBW.out).2.2 hlt
            have hwj : wrap64 ((j : Int) + 1) = (j : Int) + 1 := wrap64_in (by have := HLE.out; omega)
            cases he
            have HN : Hid (nuB cs[j] = false → Q = false) := HNC.out j hlt
            have HS : Hid (nuB cs[j] = true → ∀ k (hk : k < cs.length), k < j + 1 → nuB cs[k] = true) := fun hq k hk h => by
              rcases Nat.lt_or_ge k j with h' | h'
              · exact hA.out k hk h'
              · obtain rfl : k = j := by omega
                exact hq
            obtain ⟨x, hx⟩ : ∃ x, cs[j] = x := ⟨_, rfl⟩
            rw [hx] at c0 HN HS
            have hi0 : (0 : Int) ≤ (j : Int) := by omega
            have hi1 : (j : Int) < (cs.length : Int) := by omega
            clear hx hk0 hA
            go_wp2_with (fail)
            refine (in_c x (-1) 30 _).mono ?_
            rintro e w1 ⟨rfl, hw⟩
            rw [hw]
            clear hw w1
            by_cases g : -1 ≤ x ∧ x ≤ 30
            case neg =>
              obtain rfl : Q = false := HN.out (by unfold nuB; rw [decide_eq_false g])
              rw [decide_eq_false g]
              clear g
              go_wp2
              go_ret
              exact ⟨rfl, HBW.out⟩
            have HS2 : Hid (∀ k (hk : k < cs.length), k < j + 1 → nuB cs[k] = true) := HS.out (by unfold nuB; rw [decide_eq_true g])
            rw [decide_eq_true g]
            clear g HS HN
            go_wp2
            go_roundw
            case rel => exact ⟨j + 1, by omega, by go_num, HS2.out, hB.out⟩
            case measure => (rw [hwj]; exact meas18 hlt)
        case pos =>
        obtain ⟨b, off, cp, he, -, -, c0⟩ := rd_at (HR.out.below HBW.out).2.1 hlt
        have hwj : wrap64 ((j : Int) + 1) = (j : Int) + 1 := wrap64_in (by have := HLE.out; omega)
        cases he
        have HN : Hid (nuB ls[j] = false → Q = false) := HNL.out j hlt
        have HS : Hid (nuB ls[j] = true → ∀ k (hk : k < ls.length), k < j + 1 → nuB ls[k] = true) := fun hq k hk h => by
          rcases Nat.lt_or_ge k j with h' | h'
          · exact hA.out k hk h'
          · obtain rfl : k = j := by omega
            exact hq
        obtain ⟨x, hx⟩ : ∃ x, ls[j] = x := ⟨_, rfl⟩
        rw [hx] at c0 HN HS
        have hi0 : (0 : Int) ≤ (j : Int) := by omega
        have hi1 : (j : Int) < (ls.length : Int) := by omega
        clear hx hk0 hA
        go_wp2_with (fail)
        refine (in_c x (-1) 30 _).mono ?_
        rintro e w1 ⟨rfl, hw⟩
        rw [hw]
        clear hw w1
        by_cases g : -1 ≤ x ∧ x ≤ 30
        case neg =>
          obtain rfl : Q = false := HN.out (by unfold nuB; rw [decide_eq_false g])
          rw [decide_eq_false g]
          clear g
          go_wp2
          go_ret
          exact ⟨rfl, HBW.out⟩
        have HS2 : Hid (∀ k (hk : k < ls.length), k < j + 1 → nuB ls[k] = true) := HS.out (by unfold nuB; rw [decide_eq_true g])
        rw [decide_eq_true g]
        clear g HS HN
        go_wp2
        go_roundw
        case rel => exact ⟨j + 1, by omega, by go_num, HS2.out, hB.out⟩
        case measure => (rw [hwj]; exact meas18 hlt)
    case pos =>
    obtain ⟨b, off, cp, he, -, -, c0, c1, c2⟩ := rg_at (HR.out.below HBW.out).1 hlt
    cases he
    have HN : Hid (tkB ls.length cs.length ts[j] = false → Q = false) := HTK.out j hlt
    have HS : Hid (tkB ls.length cs.length ts[j] = true → ∀ k (hk : k < ts.length), k < j + 1 → tkB ls.length cs.length ts[k] = true) := fun hq k hk h => by
      rcases Nat.lt_or_ge k j with h' | h'
      · exact hA.out k hk h'
      · obtain rfl : k = j := by omega
        exact hq
    obtain ⟨x, hx⟩ : ∃ x, ts[j] = x := ⟨_, rfl⟩
    rw [hx] at c0 c1 c2 HN HS
    obtain ⟨t0, t1, t2⟩ := x
    dsimp only at c0 c1 c2
    have hi0 : (0 : Int) ≤ (j : Int) := by omega
    have hi1 : (j : Int) < (ts.length : Int) := by omega
    have hwj : wrap64 ((j : Int) + 1) = (j : Int) + 1 := wrap64_in (by have := HLE.out; omega)
    have hszr : w.heap.size < wr.heap.size := hk0.lt
    have hbsz : b < wr.heap.size := block_lt_of_cell c0
    have hw1 : wrap64 ((ls.length : Int) - 1) = (ls.length : Int) - 1 := wrap64_in (by have := HLE.out; omega)
    have hw2 : wrap64 ((cs.length : Int) - 1) = (cs.length : Int) - 1 := wrap64_in (by have := HLE.out; omega)
    have HBA : Hid (Below w.heap.size w (wr.alloc (Obj.cells #[Value.int IntKind.i64 t0, Value.int IntKind.i64 t1, Value.int IntKind.i64 t2] 38)) ∧ Below W1.heap.size W1 (wr.alloc (Obj.cells #[Value.int IntKind.i64 t0, Value.int IntKind.i64 t1, Value.int IntKind.i64 t2] 38))) := ⟨HBW.out.alloc HBW.out.size _, hB.out.alloc hB.out.size _⟩
    clear hx hk0 hA
    go_wp2_with (fail)
    refine (in_c t0 0 ((ls.length : Int) - 1) _).mono ?_
    rintro e w1 ⟨rfl, hw⟩
    rw [hw]
    clear hw w1
    by_cases g0 : 0 ≤ t0 ∧ t0 ≤ (ls.length : Int) - 1
    case neg =>
      obtain rfl : Q = false := HN.out (by unfold tkB; rw [decide_eq_false g0]; simp)
      rw [decide_eq_false g0]
      clear g0
      go_wp2
      go_ret
      exact ⟨rfl, HBA.out.1⟩
    rw [decide_eq_true g0]
    have G0 : Hid (0 ≤ t0 ∧ t0 ≤ (ls.length : Int) - 1) := g0
    clear g0
    go_wp2_with (fail)
    refine (in_c t1 0 ((ls.length : Int) - 1) _).mono ?_
    rintro e w1 ⟨rfl, hw⟩
    rw [hw]
    clear hw w1
    by_cases g1 : 0 ≤ t1 ∧ t1 ≤ (ls.length : Int) - 1
    case neg =>
      obtain rfl : Q = false := HN.out (by unfold tkB; rw [decide_eq_false g1]; simp)
      rw [decide_eq_false g1]
      clear g1
      go_wp2
      go_ret
      exact ⟨rfl, HBA.out.1⟩
    rw [decide_eq_true g1]
    have G1 : Hid (0 ≤ t1 ∧ t1 ≤ (ls.length : Int) - 1) := g1
    clear g1
    go_wp2_with (fail)
    refine (in_c t2 (-1) ((cs.length : Int) - 1) _).mono ?_
    rintro e w1 ⟨rfl, hw⟩
    rw [hw]
    clear hw w1
    by_cases g2 : -1 ≤ t2 ∧ t2 ≤ (cs.length : Int) - 1
    case neg =>
      obtain rfl : Q = false := HN.out (by unfold tkB; rw [decide_eq_false g2]; simp)
      rw [decide_eq_false g2]
      clear g2
      go_wp2
      go_ret
      exact ⟨rfl, HBA.out.1⟩
    have HS2 : Hid (∀ k (hk : k < ts.length), k < j + 1 → tkB ls.length cs.length ts[k] = true) := HS.out (by unfold tkB; rw [decide_eq_true G0.out, decide_eq_true G1.out, decide_eq_true g2]; rfl)
    rw [decide_eq_true g2]
    clear g2 HS HN
    go_wp2
    go_roundw
    case rel => exact ⟨j + 1, by omega, by go_num, HS2.out, HBA.out.2⟩
    case measure => (rw [hwj]; exact meas18 hlt)

end Go.Proofs.YtmfmlbiplagmiaaDoor
