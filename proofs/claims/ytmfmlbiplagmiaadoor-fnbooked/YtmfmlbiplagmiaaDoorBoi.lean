/- The program's BookOk; no condition. -/
import Derived.Test.YtmfmlbiplagmiaaDoorBom
import Derived.Recover
import Derived.Defers
namespace Go.Proofs.YtmfmlbiplagmiaaDoor
open Go.RowKit Go.ChangeShapes Go.WideShapes Go.ChangeAt
set_option linter.unusedVariables false
set_option linter.unusedSimpArgs false
set_option maxRecDepth 8000

/-- a fault of a kind at a place, as the program tells it within -/
abbrev nfV (k a : Int) : Value := .iface 103 (.agg #[.int .i64 a, .iface 99 (.int .i64 k)])
abbrev PF : List PanicEntry := [{ v := nfV 7 0, recovered := false }]
def enB (b : Bool) : Ending := if b then .returned (.tuple #[]) else .panicked PF
set_option maxHeartbeats 800000 in
theorem newFault_c (k a : Int) (w : World) : Calls Tryd.prog 82 #[.int .i64 k, .int .i64 a] w fun e w' => e = .returned (nfV k a) ∧ w' = w := by
  go_enter Tryd.func82, Tryd.ntmps82
  go_wp2
  go_ret
  exact ⟨rfl, rfl⟩
set_option maxHeartbeats 800000 in
theorem mustLie_c (x lo hi : Int) (w : World) : Calls Tryd.prog 66 #[.int .i64 x, .int .i64 lo, .int .i64 hi] w fun e w' => e = enB (decide (lo ≤ x ∧ x ≤ hi)) ∧ w' = w := by
  obtain ⟨B, hB⟩ : ∃ B, decide (lo ≤ x ∧ x ≤ hi) = B := ⟨_, rfl⟩
  have HC : Hid (∀ W, Calls Tryd.prog 81 #[.int .i64 x, .int .i64 lo, .int .i64 hi] W fun e w' => e = .returned (.bool B) ∧ w' = W) := fun W => by have := within_c x lo hi W; rw [hB] at this; exact this
  rw [hB]
  clear hB
  go_enter Tryd.func66, Tryd.ntmps66
  go_wp2_with (fail)
  refine (HC.out _).mono ?_
  rintro e w1 ⟨rfl, hw⟩
  rw [hw]
  clear hw w1
  cases B with
  | true =>
    go_wp2
    go_end0
    exact ⟨rfl, rfl⟩
  | false =>
    go_wp2_with (fail)
    refine (newFault_c 7 0 _).mono ?_
    rintro e w1 ⟨rfl, hw⟩
    rw [hw]
    clear hw w1
    go_wp2
    exact ⟨rfl, rfl, rfl⟩
set_option maxHeartbeats 1600000 in
theorem mustAll_c (v : Value) (zs : List Int) (w : World) (h : Rd .i64 w v zs) (hz : zs.length ≤ 30) : Calls Tryd.prog 67 #[v, .int .i64 (-1), .int .i64 30] w fun e w' => e = enB (zs.all nuB) ∧ w' = w := by
  have HR : Hid (Rd .i64 w v zs) := h
  have HNO : Hid (∀ k (hk : k < zs.length), nuB zs[k] = false → zs.all nuB = false) := fun k hk e => all_no hk e
  have HYE : Hid ((∀ k (hk : k < zs.length), nuB zs[k] = true) → zs.all nuB = true) := all_yes
  obtain ⟨Q, hQ⟩ : ∃ Q, zs.all nuB = Q := ⟨_, rfl⟩
  rw [hQ] at HNO HYE ⊢
  have HZ : Hid (zs.length ≤ 30) := hz
  obtain ⟨a, cap, rfl, -⟩ := h
  clear hQ hz
  go_enter Tryd.func67, Tryd.ntmps67
  go_wp2
  go_loopw [10] (fun i wr => ∃ j : Nat, j ≤ zs.length ∧ i = .int .i64 j ∧ Hid (∀ k (hk : k < zs.length), k < j → nuB zs[k] = true) ∧ Hid (wr = w)) (fun i _ => zs.length - (intOf i).toNat)
  case atStart => exact ⟨0, Nat.zero_le _, rfl, fun k hk h => by omega, rfl⟩
  case round =>
    obtain ⟨j, hj, rfl, hA, hB⟩ := hrel
    by_cases hlt : j < zs.length
    case neg =>
      obtain rfl : Q = true := HYE.out fun k hk => hA.out k hk (by omega)
      have hnl : ¬ ((j : Int) < (zs.length : Int)) := by omega
      clear hlt hj hA
      go_wp2
      go_end0
      exact ⟨rfl, hB.out⟩
    case pos =>
    obtain ⟨b, off, cp, he, -, -, c0⟩ := rd_at HR.out hlt
    cases he
    have c0 : wr.cell? ⟨b, off + j, none⟩ = some (.int .i64 zs[j]) := by rw [hB.out]; exact c0
    have hwj : wrap64 ((j : Int) + 1) = (j : Int) + 1 := wrap64_in (by have := HZ.out; omega)
    have HN : Hid (nuB zs[j] = false → Q = false) := HNO.out j hlt
    have HS : Hid (nuB zs[j] = true → ∀ k (hk : k < zs.length), k < j + 1 → nuB zs[k] = true) := fun hq k hk h => by
      rcases Nat.lt_or_ge k j with h' | h'
      · exact hA.out k hk h'
      · obtain rfl : k = j := by omega
        exact hq
    obtain ⟨x, hx⟩ : ∃ x, zs[j] = x := ⟨_, rfl⟩
    rw [hx] at c0 HN HS
    have hi0 : (0 : Int) ≤ (j : Int) := by omega
    have hi1 : (j : Int) < (zs.length : Int) := by omega
    clear hx hA
    go_wp2_with (fail)
    refine (mustLie_c x (-1) 30 _).mono ?_
    rintro e w1 ⟨rfl, hw⟩
    rw [hw]
    clear hw w1
    by_cases g : -1 ≤ x ∧ x ≤ 30
    case neg =>
      obtain rfl : Q = false := HN.out (by unfold nuB; rw [decide_eq_false g])
      rw [decide_eq_false g]
      exact ⟨rfl, rfl, hB.out⟩
    have HS2 : Hid (∀ k (hk : k < zs.length), k < j + 1 → nuB zs[k] = true) := HS.out (by unfold nuB; rw [decide_eq_true g])
    rw [decide_eq_true g]
    clear g HS HN
    simp only [enB, if_true]
    go_wp2
    go_roundw
    case rel => exact ⟨j + 1, by omega, by go_num, HS2.out, hB.out⟩
    case measure => (rw [hwj]; exact meas18 hlt)
set_option maxHeartbeats 3200000 in
theorem mustRead_c (va vl vc : Value) (ts : List Tk) (ls cs : List Int) (w : World) (h : Rbk w va vl vc ts ls cs) :
   Calls Tryd.prog 38 #[.agg (B3 va vl vc)] w fun e w' => e = enB (bkB ts ls cs) ∧ Below w.heap.size w w' := by
  obtain ⟨W1, hW1⟩ : ∃ W1, w.alloc (Obj.cells (B3 va vl vc) 27) = W1 := ⟨_, rfl⟩
  have hb : Below w.heap.size w W1 := hW1 ▸ (Below.refl _ _).alloc (Nat.le_refl _) _
  have HB : Hid (Below w.heap.size w W1) := hb
  have K0 : Hid (Blk W1 w.heap.size (B3 va vl vc) 27) := by show Blk _ _ _ _; rw [← hW1]; exact Blk.new _ _ _
  have HR : Hid (Rbk w va vl vc ts ls cs) := h
  have HT : Hid (¬ ts.length ≤ 30 → bkB ts ls cs = false) := bkB_t
  have HL : Hid (¬ ls.length ≤ 30 → bkB ts ls cs = false) := bkB_l
  have HC : Hid (¬ cs.length ≤ 30 → bkB ts ls cs = false) := bkB_c
  have HTK : Hid (∀ k (hk : k < ts.length), tkB ls.length cs.length ts[k] = false → bkB ts ls cs = false) := fun k hk e => bkB_tk hk e
  have HREST : Hid (ts.length ≤ 30 → ls.length ≤ 30 → cs.length ≤ 30 → (∀ k (hk : k < ts.length), tkB ls.length cs.length ts[k] = true) → bkB ts ls cs = (ls.all nuB && cs.all nuB)) := fun h1 h2 h3 h4 => by
    unfold bkB; rw [decide_eq_true h1, decide_eq_true h2, decide_eq_true h3, all_yes h4]; simp
  obtain ⟨Q, hQ⟩ : ∃ Q, bkB ts ls cs = Q := ⟨_, rfl⟩
  rw [hQ] at HT HL HC HTK HREST ⊢
  have ha := h.1
  have hl := h.2.1
  have hc := h.2.2
  obtain ⟨a, cap, rfl, -⟩ := ha
  obtain ⟨a', cap', rfl, -⟩ := hl
  obtain ⟨a'', cap'', rfl, -⟩ := hc
  have x0 := K0.out.cell 0
  have x1 := K0.out.cell 1
  have x2 := K0.out.cell 2
  simp at x0 x1 x2
  have HW1 : Hid (_ = W1) := hW1
  have hsz : w.heap.size < W1.heap.size := K0.out.lt
  clear hb hW1 h hQ
  go_enter Tryd.func38, Tryd.ntmps38
  go_wp2_with (rw [HW1.out])
  refine (mustLie_c ts.length 0 30 _).mono ?_
  rintro e w1 ⟨rfl, hw⟩
  rw [hw]
  clear hw w1
  by_cases h1 : ts.length ≤ 30
  case neg =>
    obtain rfl := HT.out h1
    rw [decide_eq_false (show ¬ ((0 : Int) ≤ (ts.length : Int) ∧ (ts.length : Int) ≤ 30) by omega)]
    exact ⟨rfl, rfl, HB.out⟩
  rw [decide_eq_true (show ((0 : Int) ≤ (ts.length : Int) ∧ (ts.length : Int) ≤ 30) by omega)]
  have H1 : Hid (ts.length ≤ 30) := h1
  clear h1
  simp only [enB, if_true]
  go_wp2_with (rw [HW1.out])
  refine (mustLie_c ls.length 0 30 _).mono ?_
  rintro e w1 ⟨rfl, hw⟩
  rw [hw]
  clear hw w1
  by_cases h1 : ls.length ≤ 30
  case neg =>
    obtain rfl := HL.out h1
    rw [decide_eq_false (show ¬ ((0 : Int) ≤ (ls.length : Int) ∧ (ls.length : Int) ≤ 30) by omega)]
    exact ⟨rfl, rfl, HB.out⟩
  rw [decide_eq_true (show ((0 : Int) ≤ (ls.length : Int) ∧ (ls.length : Int) ≤ 30) by omega)]
  have H2 : Hid (ls.length ≤ 30) := h1
  clear h1
  simp only [enB, if_true]
  go_wp2_with (rw [HW1.out])
  refine (mustLie_c cs.length 0 30 _).mono ?_
  rintro e w1 ⟨rfl, hw⟩
  rw [hw]
  clear hw w1
  by_cases h1 : cs.length ≤ 30
  case neg =>
    obtain rfl := HC.out h1
    rw [decide_eq_false (show ¬ ((0 : Int) ≤ (cs.length : Int) ∧ (cs.length : Int) ≤ 30) by omega)]
    exact ⟨rfl, rfl, HB.out⟩
  rw [decide_eq_true (show ((0 : Int) ≤ (cs.length : Int) ∧ (cs.length : Int) ≤ 30) by omega)]
  have H3 : Hid (cs.length ≤ 30) := h1
  have HLE : Hid (ts.length ≤ 30 ∧ ls.length ≤ 30 ∧ cs.length ≤ 30) := ⟨H1.out, H2.out, h1⟩
  clear h1
  simp only [enB, if_true]
  go_wp2_with (rw [HW1.out])
  clear x0 x1 x2
  go_loopw [19] (fun i wr => ∃ j : Nat, j ≤ ts.length ∧ i = .int .i64 j ∧ Hid (∀ k (hk : k < ts.length), k < j → tkB ls.length cs.length ts[k] = true) ∧ Hid (Below W1.heap.size W1 wr)) (fun i _ => ts.length - (intOf i).toNat)
  case atStart => exact ⟨0, Nat.zero_le _, rfl, fun k hk h => by omega, Below.refl _ _⟩
  case round =>
    obtain ⟨j, hj, rfl, hA, hB⟩ := hrel
    have hk0 := K0.out.below hB.out K0.out.lt
    have x0 := hk0.cell 0
    have x1 := hk0.cell 1
    have x2 := hk0.cell 2
    simp at x0 x1 x2
    have HBW : Hid (Below w.heap.size w wr) := belowCall HB.out hB.out HB.out.size
    by_cases hlt : j < ts.length
    case neg =>
      have HQ : Hid (Q = (ls.all nuB && cs.all nuB)) := HREST.out H1.out H2.out H3.out fun k hk => hA.out k hk (by omega)
      have hnl : ¬ ((j : Int) < (ts.length : Int)) := by omega
      have HRW : Hid (Rbk wr (.slice a ts.length cap) (.slice a' ls.length cap') (.slice a'' cs.length cap'') ts ls cs) := HR.out.below HBW.out
      clear hlt hj hA hk0
      go_wp2_with (fail)
      refine (mustAll_c _ ls _ HRW.out.2.1 H2.out).mono ?_
      rintro e w1 ⟨rfl, hw⟩
      rw [hw]
      clear hw w1
      obtain ⟨Q1, hQ1⟩ : ∃ q, ls.all nuB = q := ⟨_, rfl⟩
      obtain ⟨Q2, hQ2⟩ : ∃ q, cs.all nuB = q := ⟨_, rfl⟩
      have HC2 : Hid (∀ W, Rd .i64 W (.slice a'' cs.length cap'') cs → Calls Tryd.prog 67 #[.slice a'' cs.length cap'', .int .i64 (-1), .int .i64 30] W fun e w' => e = enB Q2 ∧ w' = W) := fun W hr => by have := mustAll_c _ cs W hr H3.out; rw [hQ2] at this; exact this
      rw [hQ1, hQ2] at HQ
      rw [hQ1]
      clear hQ1 hQ2
      cases Q1 with
      | false =>
        obtain rfl : Q = false := HQ.out
        exact ⟨rfl, rfl, HBW.out⟩
      | true =>
        obtain rfl : Q = Q2 := by have := HQ.out; simpa using this
        simp only [enB, if_true]
        go_wp2_with (fail)
        refine (HC2.out _ HRW.out.2.2).mono ?_
        rintro e w1 ⟨rfl, hw⟩
        rw [hw]
        clear hw w1
        cases Q with
        | false => exact ⟨rfl, rfl, HBW.out⟩
        | true =>
          simp only [enB, if_true]
          go_wp2
          go_end0
          exact ⟨rfl, HBW.out⟩
    case pos =>
    obtain ⟨b, off, cp, he, -, -, c0, c1, c2⟩ := rg_at (HR.out.below HBW.out).1 hlt
    cases he
    have HN : Hid (tkB ls.length cs.length ts[j] = false → Q = false) := HTK.out j hlt
    have HS : Hid (tkB ls.length cs.length ts[j] = true → ∀ k (hk : k < ts.length), k < j + 1 → tkB ls.length cs.length ts[k] = true) := fun hq k hk h => by
      rcases Nat.lt_or_ge k j with h' | h'
      · exact hA.out k hk h'
      · obtain rfl : k = j := by omega
        exact hq
    obtain ⟨x, hx⟩ : ∃ x, ts[j] = x := ⟨_, rfl⟩
    rw [hx] at c0 c1 c2 HN HS
    obtain ⟨t0, t1, t2⟩ := x
    dsimp only at c0 c1 c2
    have hi0 : (0 : Int) ≤ (j : Int) := by omega
    have hi1 : (j : Int) < (ts.length : Int) := by omega
    have hwj : wrap64 ((j : Int) + 1) = (j : Int) + 1 := wrap64_in (by have := HLE.out; omega)
    have hszr : w.heap.size < wr.heap.size := hk0.lt
    have hbsz : b < wr.heap.size := block_lt_of_cell c0
    have hw1 : wrap64 ((ls.length : Int) - 1) = (ls.length : Int) - 1 := wrap64_in (by have := HLE.out; omega)
    have hw2 : wrap64 ((cs.length : Int) - 1) = (cs.length : Int) - 1 := wrap64_in (by have := HLE.out; omega)
    have HBA : Hid (Below w.heap.size w (wr.alloc (Obj.cells #[Value.int IntKind.i64 t0, Value.int IntKind.i64 t1, Value.int IntKind.i64 t2] 38)) ∧ Below W1.heap.size W1 (wr.alloc (Obj.cells #[Value.int IntKind.i64 t0, Value.int IntKind.i64 t1, Value.int IntKind.i64 t2] 38))) := ⟨HBW.out.alloc HBW.out.size _, hB.out.alloc hB.out.size _⟩
    clear hx hk0 hA
    go_wp2_with (fail)
    refine (mustLie_c t0 0 ((ls.length : Int) - 1) _).mono ?_
    rintro e w1 ⟨rfl, hw⟩
    rw [hw]
    clear hw w1
    by_cases g0 : 0 ≤ t0 ∧ t0 ≤ (ls.length : Int) - 1
    case neg =>
      obtain rfl : Q = false := HN.out (by unfold tkB; rw [decide_eq_false g0]; simp)
      rw [decide_eq_false g0]
      exact ⟨rfl, rfl, HBA.out.1⟩
    rw [decide_eq_true g0]
    simp only [enB, if_true]
    have G0 : Hid (0 ≤ t0 ∧ t0 ≤ (ls.length : Int) - 1) := g0
    clear g0
    go_wp2_with (fail)
    refine (mustLie_c t1 0 ((ls.length : Int) - 1) _).mono ?_
    rintro e w1 ⟨rfl, hw⟩
    rw [hw]
    clear hw w1
    by_cases g1 : 0 ≤ t1 ∧ t1 ≤ (ls.length : Int) - 1
    case neg =>
      obtain rfl : Q = false := HN.out (by unfold tkB; rw [decide_eq_false g1]; simp)
      rw [decide_eq_false g1]
      exact ⟨rfl, rfl, HBA.out.1⟩
    rw [decide_eq_true g1]
    simp only [enB, if_true]
    have G1 : Hid (0 ≤ t1 ∧ t1 ≤ (ls.length : Int) - 1) := g1
    clear g1
    go_wp2_with (fail)
    refine (mustLie_c t2 (-1) ((cs.length : Int) - 1) _).mono ?_
    rintro e w1 ⟨rfl, hw⟩
    rw [hw]
    clear hw w1
    by_cases g2 : -1 ≤ t2 ∧ t2 ≤ (cs.length : Int) - 1
    case neg =>
      obtain rfl : Q = false := HN.out (by unfold tkB; rw [decide_eq_false g2]; simp)
      rw [decide_eq_false g2]
      exact ⟨rfl, rfl, HBA.out.1⟩
    rw [decide_eq_true g2]
    simp only [enB, if_true]
    have G2 : Hid (-1 ≤ t2 ∧ t2 ≤ (cs.length : Int) - 1) := g2
    clear g2
    have HS2 : Hid (∀ k (hk : k < ts.length), k < j + 1 → tkB ls.length cs.length ts[k] = true) := HS.out (by unfold tkB; rw [decide_eq_true G0.out, decide_eq_true G1.out, decide_eq_true G2.out]; rfl)
    clear HS HN
    go_wp2
    go_roundw
    case rel => exact ⟨j + 1, by omega, by go_num, HS2.out, HBA.out.2⟩
    case measure => (rw [hwj]; exact meas18 hlt)
theorem catchI_p (p : Addr) (x : Bool) (u : TypeId) (pv : Value) (older : List PanicEntry) (w : World) (hc : w.cell? p = some (.bool x)) (hz : w.frozen? p = false) :
    CallsD Tryd.prog 61 #[.pointer (some p)] (.panicking ({ v := .iface u pv, recovered := false } :: older)) w fun e u' w' =>
      e = .returned (.tuple #[]) ∧ u' = .panicking ({ v := .iface u pv, recovered := true } :: older) ∧ w' = w.setCell p (.bool false) := by
  refine callsD_of_wpS Tryd.func61 rfl fun c₀ cs hu => ?_
  apply wpS_region
  simp [wpOpsS, go_sem, recoverD, hu, Tryd.ntmps61, Exit.thenS, hc, hz, bodyPostS, results, Tryd.results61]
theorem catchI_r (p : Addr) (x : Bool) (w : World) (hc : w.cell? p = some (.bool x)) (hz : w.frozen? p = false) :
    CallsD Tryd.prog 61 #[.pointer (some p)] .returning w fun e u' w' => e = .returned (.tuple #[]) ∧ u' = .returning ∧ w' = w.setCell p (.bool true) := by
  refine callsD_of_wpS Tryd.func61 rfl fun c₀ cs hu => ?_
  apply wpS_region
  cases c₀
  simp_all [wpOpsS, go_sem, recoverD, Tryd.ntmps61, Exit.thenS, bodyPostS, results, Tryd.results61]
set_option maxHeartbeats 1600000 in
theorem okI_c (va vl vc : Value) (ts : List Tk) (ls cs : List Int) (w : World) (h : Rbk w va vl vc ts ls cs) :
   Calls Tryd.prog 30 #[.agg (B3 va vl vc)] w fun e w' => e = .returned (.bool (bkB ts ls cs)) ∧ Below w.heap.size w w' := by
  have hmf : ∀ (fn : Fn) (first cap : Array Value) (w : World), (Instr.makeFunc fn first cap).run Tryd.prog w = .ok (.func fn first cap) w := fun _ _ _ _ => rfl
  obtain ⟨W1, hW1⟩ : ∃ W1, (w.alloc (Obj.cells (B3 va vl vc) 27)).alloc (Obj.cells #[.bool false] 4) = W1 := ⟨_, rfl⟩
  have hb : Below w.heap.size w W1 := hW1 ▸ ((Below.refl _ _).alloc (Nat.le_refl _) _).alloc (by simp) _
  have HB : Hid (Below w.heap.size w W1) := hb
  have K0 : Hid (Blk W1 w.heap.size (B3 va vl vc) 27 ∧ Blk W1 (w.heap.size + 1) #[.bool false] 4) := ⟨hW1 ▸ (Blk.new _ _ _).alloc _, hW1 ▸ Blk.newAt _ (w.heap.size + 1) _ 4 (by simp)⟩
  have HR : Hid (Rbk W1 va vl vc ts ls cs) := h.below hb
  have ha := h.1
  have hl := h.2.1
  have hc := h.2.2
  obtain ⟨a, cap, rfl, -⟩ := ha
  obtain ⟨a', cap', rfl, -⟩ := hl
  obtain ⟨a'', cap'', rfl, -⟩ := hc
  have x0 := K0.out.1.cell 0
  have x1 := K0.out.1.cell 1
  have x2 := K0.out.1.cell 2
  simp at x0 x1 x2
  have HW1 : Hid (_ = W1) := hW1
  obtain ⟨Q, hQ⟩ : ∃ Q, bkB ts ls cs = Q := ⟨_, rfl⟩
  have HC : Hid (∀ W, Rbk W (.slice a ts.length cap) (.slice a' ls.length cap') (.slice a'' cs.length cap'') ts ls cs → Calls Tryd.prog 38 #[.agg (B3 (.slice a ts.length cap) (.slice a' ls.length cap') (.slice a'' cs.length cap''))] W fun e w' => e = enB Q ∧ Below W.heap.size W w') := fun W hr => by have := mustRead_c _ _ _ ts ls cs W hr; rw [hQ] at this; exact this
  rw [hQ]
  clear hb hW1 h hQ
  go_enter_defers Tryd.func30, Tryd.ntmps30
  go_wp2_with (rw [HW1.out])
  refine (HC.out W1 HR.out).mono ?_
  rintro e w2 ⟨rfl, b2⟩
  have k1 := K0.out.2.below b2 K0.out.2.lt
  have BW : Hid (Below w.heap.size w w2) := belowCall HB.out b2 HB.out.size
  have y0 := k1.cell 0
  have f0 := k1.frozen 0
  simp at y0
  cases Q with
  | false =>
    clear x0 x1 x2 b2
    refine leaves_cons (f := 61) (args := #[.pointer (some ⟨w.heap.size + 1, 0, none⟩)]) (by simp) (by simp [go_sem]) ?_
    refine (catchI_p ⟨w.heap.size + 1, 0, none⟩ false _ _ [] _ y0 f0).mono ?_
    rintro e u' w'' ⟨rfl, rfl, rfl⟩
    have z0 := (k1.set 0 (.bool false)).cell 0
    simp at z0
    have HF : Hid (Below w.heap.size w (w2.setCell ⟨w.heap.size + 1, 0, none⟩ (.bool false))) := BW.out.setCell (by simp) _
    clear k1 y0 f0
    simp [Leaves, settle, results, Tryd.results30, go_sem, z0]
    exact HF.out
  | true =>
    simp only [enB, if_true]
    clear x0 x1 x2 b2
    have k2 := k1.set 0 (.bool true)
    have z0 := k2.cell 0
    have fz := k2.frozen 0
    simp at z0
    have k3 := k2.set 0 (.bool true)
    have z1 := k3.cell 0
    simp at z1
    have HF : Hid (Below w.heap.size w ((w2.setCell ⟨w.heap.size + 1, 0, none⟩ (.bool true)).setCell ⟨w.heap.size + 1, 0, none⟩ (.bool true))) := (BW.out.setCell (by simp) _).setCell (by simp) _
    clear k1 k2 k3
    go_wp2
    refine leaves_cons (f := 61) (args := #[.pointer (some ⟨w.heap.size + 1, 0, none⟩)]) (by simp) (by simp [go_sem]) ?_
    refine (catchI_r ⟨w.heap.size + 1, 0, none⟩ true _ z0 fz).mono ?_
    rintro e u' w'' ⟨rfl, rfl, rfl⟩
    simp [Leaves, settle, results, Tryd.results30, go_sem, z1]
    exact HF.out

end Go.Proofs.YtmfmlbiplagmiaaDoor
