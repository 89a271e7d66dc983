/- The contract of the model's way of picking a parked call up; no condition but that no call has more than eight legs. -/
import Derived.Test.YtcbeaimpmjljjaaLeave
import Derived.Test.YtcbeaimpmjljjaaOne
namespace Go.Proofs.Ytcbeaimpmjljjaa
open Go.RowKit Go.ChangeShapes Go.WideShapes Go.ChangeAt
set_option linter.unusedVariables false
set_option linter.unusedSimpArgs false
set_option maxRecDepth 8000
theorem results_26 {fn : Func} {p u : Tmp} (h : fn.results = #[.cell p 26, .tmp u]) (tmps : Array Value) (w : World) (g : Nat) (a b x : Value)
    (hp : tmps.getD p undef = .pointer (some ⟨g, 0, none⟩)) (hx : tmps.getD u undef = x) (hg : Blk w g #[a, b] 26) :
    (results fn tmps).run Try.prog w = .ok (.tuple #[.agg #[a, b], x]) w := by
  have hp' : tmps[p]?.getD undef = .pointer (some ⟨g, 0, none⟩) := by simpa using hp
  have hx' : tmps[u]?.getD undef = x := by simpa using hx
  have hr := run_loadVar_row (P := Try.prog) w g 26 26 #[a, b] (0, 0) _ hg Try.underlying26 rfl size26'
  simp [results, h, hp', hx', asAddr, hr]
/-- a call's legs and its mark were written anew -/
theorem OwL.come {base g cap : Nat} {w w2 : World} {lv : List (Value × Value)} {cs : Calls2} (hL : OwL base w (some g) lv cs) (hl : lv.length = cs.length) (hO : w.ownsRow base 45 2 (.slice (some ⟨g, 0, none⟩) lv.length cap) lv.length (pr Prod.fst Prod.snd lv))
    {i : Nat} (hi : i < lv.length) {nl : Value} {ls' : Legs2} (hx : Op lf lg 42 base w2 nl ls') (hg : w.grownBy w2 lv[i].2.ownBlock) (hnb : nl.ownBlock = lv[i].2.ownBlock ∨ nl.ownBlock = some w.heap.size) :
    OwL base ((w2.setCell ⟨g, i * 2 + 1, none⟩ nl).setCell ⟨g, i * 2, none⟩ (.bool false)) (some g) (lv.set i (.bool false, nl)) (cs.set i (false, ls')) ∧
    ((w2.setCell ⟨g, i * 2 + 1, none⟩ nl).setCell ⟨g, i * 2, none⟩ (.bool false)).ownsRow base 45 2 (.slice (some ⟨g, 0, none⟩) lv.length cap) lv.length (pr Prod.fst Prod.snd (lv.set i (.bool false, nl))) := by
  have hgl : g < w.heap.size := (World.ownsRow.lt hO g rfl).2
  constructor
  · refine ((hL.put hi (by omega) hl false nl ls' hg hx ?_ ?_).grown (grown_set _ _ _ _) (.inr rfl)).grown (grown_set _ _ _ _) (.inr rfl)
    · rcases hnb with e | e
      · exact .inl e
      · right; intro k e2; rw [e] at e2; cases e2; exact Nat.le_refl _
    · intro k e; cases e; exact hgl
  · have q := World.ownsRow.kept hO hg (by
      rcases (hL i hi (by omega)).2.2.1 with e | e
      · rw [e]; exact .inr (by simp [Value.ownBlock])
      · exact .inr fun e2 => e (by rw [← e2]; rfl))
    have q1 := (World.ownsRow.stored q (i * 2 + 1) nl).1
    have q2 := (World.ownsRow.stored q1 (i * 2) (.bool false)).1
    rw [List.set_comm _ _ (by omega)] at q2
    have e := pr_set Prod.fst Prod.snd lv i (.bool false, nl) hi
    dsimp only at e
    rw [e] at q2
    exact q2
def pickM (cs : Calls2) (a : Int) : Calls2 × Int :=
  match callAt cs a with
  | some _ => (cs, 2)
  | none => match cs.findIdx? (fun c => c.1) with
    | none => (cs, 4)
    | some i => if (cs.getD i (false, [])).2.length = 8 then (cs, 3) else (cs.set i (false, (cs.getD i (false, [])).2 ++ [(a, false)]), 0)
def PanR (n : Int) (base : Nat) (w : World) (r : Calls2 × Int) (e : Ending) (w' : World) : Prop := ∃ v', e = .returned (.tuple #[.agg #[.int .i64 n, v'], .int .i64 r.2]) ∧ OwC base w' v' r.1 ∧ Below base w w'
theorem cidx_some {cs : Calls2} {l : Int} {j : Nat} (h : callAt cs l = some j) : cidx cs l = (j : Int) := by simp [cidx, h]
theorem cidx_none {cs : Calls2} {l : Int} (h : callAt cs l = none) : cidx cs l = -1 := by simp [cidx, h]
set_option maxHeartbeats 3200000 in
theorem pick_c (n : Int) (v : Value) (cs : Calls2) (x : Int) (base : Nat) (w : World) (h : OwC base w v cs) (hbase : base ≤ w.heap.size) (hn : cs.length ≤ 4194304) (h8 : ∀ c ∈ cs, c.2.length ≤ 8) :
   Calls Try.prog 60 #[.agg #[.int .i64 n, v], .int .i64 x] w (PanR n base w (pickM cs x)) := by
  have hrd := h.rd
  obtain ⟨lv, hl, hO, hL⟩ := h
  obtain ⟨av, cap, hv, hc1, hc2, hc3⟩ := own_form hO
  subst hv
  obtain ⟨W0, hW0⟩ : ∃ W0, (w.alloc (Obj.cells #[.int .i64 n, .slice av lv.length cap] 26)).alloc (Obj.cells #[.int .i64 0, .slice none 0 0] 26) = W0 := ⟨_, rfl⟩
  have kb : Below w.heap.size w W0 := hW0 ▸ ((Below.refl _ _).alloc (Nat.le_refl _) _).alloc (by simp) _
  have k0 : Blk W0 w.heap.size #[.int .i64 n, .slice av lv.length cap] 26 := hW0 ▸ (Blk.newAt _ _ _ 26 rfl).alloc _
  have k1 : Blk W0 (w.heap.size + 1) #[.int .i64 0, .slice none 0 0] 26 := hW0 ▸ Blk.newAt _ _ _ 26 (by simp)
  have hs0 : W0.heap.size = w.heap.size + 2 := by rw [← hW0]; simp
  have HW : Hid ((w.alloc (Obj.cells #[.int .i64 n, .slice av lv.length cap] 26)).alloc (Obj.cells #[.int .i64 0, .slice none 0 0] 26) = W0) := hW0
  have HF : Hid (Calls Try.prog 61 #[.agg #[.int .i64 n, .slice av lv.length cap], .int .i64 x] W0 fun e w' => ∃ i k : Int, e = .returned (.tuple #[.int .i64 i, .int .i64 k]) ∧ Found cs x i k ∧ Below W0.heap.size W0 w') := find_c n _ cs x W0 (hrd.below kb)
  have HALL : Hid (∀ t (ht : t < lv.length) k, lv[t].2.ownBlock = some k → base ≤ k ∧ k < w.heap.size) := fun t ht k e => World.ownsRow.lt (hL t ht (by omega)).2.1 k e
  have HVB : Hid (∀ k, (Value.slice av lv.length cap).ownBlock = some k → base ≤ k ∧ k < w.heap.size) := fun k e => World.ownsRow.lt hO k e
  -- what holds in any later world
  have HK : Hid (∀ w1, Below W0.heap.size W0 w1 → Blk w1 w.heap.size #[.int .i64 n, .slice av lv.length cap] 26 ∧ Blk w1 (w.heap.size + 1) #[.int .i64 0, .slice none 0 0] 26 ∧ w1.ownsRow base 45 2 (.slice av lv.length cap) lv.length (pr Prod.fst Prod.snd lv) ∧ OwL base w1 (Value.slice av lv.length cap).ownBlock lv cs ∧ Below base w w1 ∧ w.heap.size + 2 ≤ w1.heap.size) := fun w1 hb =>
    ⟨k0.below hb (by omega), k1.below hb (by omega), Op.below (Op.below hO kb) hb, (hL.grown (below_grown kb) (.inl rfl)).grown (below_grown hb) (.inl rfl), (kb.mono hbase).trans (hb.mono (by omega)), by have := hb.size; omega⟩
  have HLL : Hid (lv.length = cs.length) := hl
  -- nothing has changed
  have SAME : Hid (∀ w1 (c : Int), Below W0.heap.size W0 w1 → ∀ W4, (w1.setCell ⟨w.heap.size + 1, 0, none⟩ (.int .i64 n)).setCell ⟨w.heap.size + 1, 1, none⟩ (.slice av lv.length cap) = W4 → Blk W4 (w.heap.size + 1) #[.int .i64 n, .slice av lv.length cap] 26 ∧ (pickM cs x = (cs, c) → PanR n base w (pickM cs x) (.returned (.tuple #[.agg #[.int .i64 n, .slice av lv.length cap], .int .i64 c])) W4)) := by
    rintro w1 c hb _ rfl
    obtain ⟨q0, q1, q2, q3, q4, q5⟩ := HK.out w1 hb
    refine ⟨?_, fun e => ⟨_, by rw [e], ?_, (q4.setCell (by dsimp only; omega) _).setCell (by dsimp only; omega) _⟩⟩
    · have := (q1.set 0 (.int .i64 n)).set 1 (.slice av lv.length cap)
      simpa using this
    · rw [e]
      have hh : ∀ y ∈ lv, y.2.ownBlock ≠ some (w.heap.size + 1) := fun y hy e => by
        obtain ⟨t, ht, rfl⟩ := List.getElem_of_mem hy
        have := HALL.out t ht _ e; omega
      have hv1 : (Value.slice av lv.length cap).ownBlock ≠ some (w.heap.size + 1) := fun e => by have := HVB.out _ e; omega
      exact ⟨lv, hl, World.ownsRow.kept (World.ownsRow.kept q2 (grown_set _ _ _ _) (.inr hv1)) (grown_set _ _ _ _) (.inr hv1), (q3.off (grown_set _ _ _ _) hh).off (grown_set _ _ _ _) hh⟩
  have hlc : lv.length ≤ 4194304 := by omega
  clear hW0 kb k0 k1 hO hL hrd hl
  go_enter Try.func60, Try.ntmps60
  go_wp2_with (fail)
  rw [HW.out]
  refine HF.out.mono ?_
  rintro e w1 ⟨i0, k0, rfl, hf, hb⟩
  obtain ⟨rfl, rfl⟩ := found_eq hf
  obtain ⟨k0', hk0'⟩ : ∃ k, lidx cs x = k := ⟨_, rfl⟩
  obtain ⟨i0', hi0'⟩ : ∃ k, cidx cs x = k := ⟨_, rfl⟩
  rw [hk0', hi0']
  obtain ⟨q0, q1, q2, q3, q4, q5⟩ := HK.out w1 hb
  have c0 := q0.cell 0
  have c1 := q0.cell 1
  have d0 := q1.cell 0
  have d1 := q1.cell 1
  have f0 := q1.frozen 0
  have f1 := q1.frozen 1
  simp at c0 c1 d0 d1
  have HB : Hid (Below W0.heap.size W0 w1) := hb
  clear hb q0 q1 q2 q3 q4 hf hk0' HF HW
  cases hcall : callAt cs x with
  | some j =>
    rw [cidx_some hcall] at hi0'
    subst hi0'
    have HC : Hid (callAt cs x = some j) := hcall
    clear hcall
    go_wp2
    exact bodyPost_ret (v := .tuple #[.agg #[.int .i64 n, .slice av lv.length cap], .int .i64 2]) (results_26 rfl _ _ _ _ _ _ rfl rfl (SAME.out w1 2 HB.out _ rfl).1) rfl ((SAME.out w1 2 HB.out _ rfl).2 (by simp [pickM, HC.out]))
  | none =>
    rw [cidx_none hcall] at hi0'
    subst hi0'
    have HC : Hid (callAt cs x = none) := hcall
    clear hcall
    go_wp2
    go_loopw [8] (fun i wr => ∃ j : Nat, j ≤ lv.length ∧ i = .int .i64 j ∧ wr = w1 ∧ Hid (∀ t (ht : t < cs.length), t < j → cs[t].1 = false)) (fun i _ => lv.length - (intOf i).toNat)
    case atStart => exact ⟨0, Nat.zero_le _, rfl, rfl, fun t _ h => by omega⟩
    case round =>
      obtain ⟨j, hj, rfl, rfl, hno⟩ := hrel
      by_cases hlt : j < lv.length
      · obtain ⟨g, rfl⟩ : ∃ g, av = some ⟨g, 0, none⟩ := by
          rcases hc3 with h | h
          · omega
          · exact h
        have hjc : j < cs.length := by have := HLL.out; omega
        obtain ⟨q0, q1, q2, q3, q4, -⟩ := HK.out wr HB.out
        obtain ⟨ls, hls⟩ : ∃ p, cs[j].2 = p := ⟨_, rfl⟩
        obtain ⟨y, hy⟩ : ∃ p, lv[j].2 = p := ⟨_, rfl⟩
        obtain ⟨hq1, hq2, hq3, hq4⟩ := q3 j hlt hjc
        have hl8 : ls.length ≤ 8 := by rw [← hls]; exact h8 _ (List.getElem_mem hjc)
        rw [hy, hls] at hq2
        obtain ⟨ay, cy, e, hy1, hy2, hy3⟩ := own_form hq2
        subst e
        have hp := pr_at Prod.fst Prod.snd lv j hlt
        have g0 : wr.cell? ⟨g, j * 2, none⟩ = some (.bool cs[j].1) := by rw [← hq1]; exact (World.ownsRow.cellAt q2 (j * 2) (by omega)).trans hp.1
        have g1 : wr.cell? ⟨g, j * 2 + 1, none⟩ = some (.slice ay ls.length cy) := by rw [← hy]; exact (World.ownsRow.cellAt q2 (j * 2 + 1) (by omega)).trans hp.2
        cases hpk : cs[j].1 with
        | false =>
          rw [hpk] at g0
          have HNO : Hid (∀ t (ht : t < cs.length), t < j + 1 → cs[t].1 = false) := fun t ht htj => by
            by_cases e : t = j
            · subst e; exact hpk
            · exact hno.out t ht (by omega)
          clear q0 q1 q2 q3 q4 hq1 hq2 hq3 hq4 hp hpk hno hls hy
          go_wp2
          go_roundw
          case rel => exact ⟨j + 1, by omega, by go_num, by trivial, HNO.out⟩
          case measure => simp [intOf]; omega
        | true =>
          rw [hpk] at g0
          have HFI : Hid (cs.findIdx? (fun c => c.1) = some j) := by
            show cs.findIdx? (fun c => c.1) = some j
            rw [List.findIdx?_eq_some_iff_getElem]
            exact ⟨hjc, hpk, fun t ht => by simp [hno.out t (by omega) ht]⟩
          have HGD : Hid ((cs.getD j (false, [])).2 = ls) := by
            show (cs.getD j (false, [])).2 = ls
            rw [List.getD_eq_getElem?_getD, List.getElem?_eq_getElem hjc]; exact hls
          by_cases hfull : ls.length = 8
          · have HM : Hid (pickM cs x = (cs, 3)) := by
              show pickM cs x = (cs, 3)
              unfold pickM
              simp only [HC.out, HFI.out]
              rw [if_pos (by rw [HGD.out]; exact hfull)]
            rw [hfull] at g1
            clear q0 q1 q2 q3 q4 hq1 hq2 hq3 hq4 hp hpk hno hls hy hfull
            go_wp2
            exact bodyPost_ret (v := .tuple #[.agg #[.int .i64 n, .slice (some ⟨g, 0, none⟩) lv.length cap], .int .i64 3]) (results_26 rfl _ _ _ _ _ _ rfl rfl (SAME.out wr 3 HB.out _ rfl).1) rfl ((SAME.out wr 3 HB.out _ rfl).2 HM.out)
          · have hf' : ¬ ((ls.length : Int) = 8) := by omega
            have hgl := HVB.out g rfl
            have hM : pickM cs x = (cs.set j (false, ls ++ [(x, false)]), 0) := by
              unfold pickM
              simp only [HC.out, HFI.out]
              rw [HGD.out, if_neg hfull]
            have hyb : ∀ k, (Value.slice ay ls.length cy).ownBlock = some k → base ≤ k ∧ k < w.heap.size := fun k e => HALL.out j hlt k (by rw [hy]; exact e)
            have hyg : (Value.slice ay ls.length cy).ownBlock ≠ some g := fun e => by
              rw [hy] at hq3
              rcases hq3 with h | h
              · rw [h] at e; cases e
              · exact h e
            obtain ⟨W1, hW1⟩ : ∃ W1, wr.drew.alloc (Obj.cells #[.int .i64 x, .bool false] 42) = W1 := ⟨_, rfl⟩
            have kb1 : Below wr.heap.size wr W1 := hW1 ▸ (Below.refl _ _).drew.alloc (Nat.le_refl _) _
            have hs1 : W1.heap.size = wr.heap.size + 1 := by rw [← hW1]; simp
            have Y1 : Op lf lg 42 base W1 (.slice ay ls.length cy) ls := Op.below hq2 kb1
            have R1 : Rp lf lg W1 (.slice (some ⟨wr.heap.size, 0, none⟩) 1 1) [(x, false)] := by
              refine ⟨_, 1, rfl, by simp, by simp [maxLen], .inr ⟨wr.heap.size, 0, rfl, fun i hi => ?_⟩⟩
              have hk : Blk W1 wr.heap.size #[.int .i64 x, .bool false] 42 := hW1 ▸ Blk.newAt _ _ _ 42 rfl
              obtain rfl : i = 0 := by simp at hi; omega
              have u0 := hk.cell 0
              have u1 := hk.cell 1
              simp at u0 u1
              exact ⟨by simpa using u0, by simpa using u1⟩
            have L1 := q3.grown (below_grown kb1) (.inl rfl)
            have O1 := World.ownsRow.kept q2 (below_grown kb1) (.inr (by simp [Value.ownBlock]))
            have B1 := q0.below kb1 (by omega)
            have B2 := q1.below kb1 (by omega)
            have FIN : Hid (∀ v' w4, Op lf lg 42 base w4 v' (ls ++ [(x, false)]) → W1.grownBy w4 (Value.slice ay ls.length cy).ownBlock → (v'.ownBlock = (Value.slice ay ls.length cy).ownBlock ∨ v'.ownBlock = some W1.heap.size) →
                ((w4.cell? ⟨w.heap.size, 0, none⟩ = some (.int .i64 n) ∧ w4.cell? ⟨w.heap.size, 1, none⟩ = some (.slice (some ⟨g, 0, none⟩) lv.length cap)) ∧ (w4.cell? ⟨w.heap.size + 1, 0, none⟩ = some (.int .i64 0) ∧ w4.cell? ⟨w.heap.size + 1, 1, none⟩ = some (.slice none 0 0) ∧ w4.frozen? ⟨w.heap.size + 1, 0, none⟩ = false ∧ w4.frozen? ⟨w.heap.size + 1, 1, none⟩ = false) ∧
                  (w4.cell? ⟨g, j * 2, none⟩ = some (.bool true) ∧ w4.cell? ⟨g, j * 2 + 1, none⟩ = some (.slice ay ls.length cy) ∧ w4.frozen? ⟨g, j * 2, none⟩ = false ∧ w4.frozen? ⟨g, j * 2 + 1, none⟩ = false)) ∧
                ∀ W4, (((w4.setCell ⟨g, j * 2 + 1, none⟩ v').setCell ⟨g, j * 2, none⟩ (.bool false)).setCell ⟨w.heap.size + 1, 0, none⟩ (.int .i64 n)).setCell ⟨w.heap.size + 1, 1, none⟩ (.slice (some ⟨g, 0, none⟩) lv.length cap) = W4 →
                  Blk W4 (w.heap.size + 1) #[.int .i64 n, .slice (some ⟨g, 0, none⟩) lv.length cap] 26 ∧ PanR n base w (pickM cs x) (.returned (.tuple #[.agg #[.int .i64 n, .slice (some ⟨g, 0, none⟩) lv.length cap], .int .i64 0])) W4) := by
              intro v' w4 ho hg hv'
              have nb : ∀ k, w.heap.size ≤ k → some k ≠ (Value.slice ay ls.length cy).ownBlock := fun k hk e => by have := hyb k e.symm; omega
              have r0 : Blk w4 w.heap.size _ _ := (hg.block w.heap.size (by omega) (nb _ (by omega))).trans B1
              have r1 : Blk w4 (w.heap.size + 1) _ _ := (hg.block (w.heap.size + 1) (by omega) (nb _ (by omega))).trans B2
              have r2 : w4.ownsRow base 45 2 (.slice (some ⟨g, 0, none⟩) lv.length cap) lv.length (pr Prod.fst Prod.snd lv) := World.ownsRow.kept O1 hg (.inr (fun e => hyg e.symm))
              have u0 := r0.cell 0
              have u1 := r0.cell 1
              have u2 := r1.cell 0
              have u3 := r1.cell 1
              simp at u0 u1 u2 u3
              refine ⟨⟨⟨u0, u1⟩, ⟨u2, u3, r1.frozen 0, r1.frozen 1⟩, ⟨?_, ?_, World.ownsRow.frozenAt r2 _, World.ownsRow.frozenAt r2 _⟩⟩, ?_⟩
              · rw [World.ownsRow.cellAt r2 (j * 2) (by omega), hp.1, hq1, hpk]
              · rw [World.ownsRow.cellAt r2 (j * 2 + 1) (by omega), hp.2, hy]
              · rintro _ rfl
                obtain ⟨z1, z2⟩ := OwL.come L1 HLL.out O1 hlt ho (by rw [hy]; exact hg) (by rw [hy]; exact hv')
                have hh : ∀ y ∈ lv.set j (.bool false, v'), y.2.ownBlock ≠ some (w.heap.size + 1) := fun y hm e => by
                  rcases List.mem_or_eq_of_mem_set hm with hm | rfl
                  · obtain ⟨t, ht, rfl⟩ := List.getElem_of_mem hm
                    have := HALL.out t ht _ e; omega
                  · rcases hv' with h | h
                    · rw [h] at e; have := hyb _ e; omega
                    · rw [h] at e; have := Option.some.inj e; omega
                have hv1 : (Value.slice (some ⟨g, 0, none⟩) lv.length cap).ownBlock ≠ some (w.heap.size + 1) := fun e => by have := HVB.out _ e; omega
                refine ⟨?_, ?_⟩
                · have := (((r1.other ⟨g, j * 2 + 1, none⟩ v' (by dsimp only; omega)).other ⟨g, j * 2, none⟩ (.bool false) (by dsimp only; omega)).set 0 (.int .i64 n)).set 1 (.slice (some ⟨g, 0, none⟩) lv.length cap)
                  simpa using this
                · refine ⟨_, by rw [hM], ?_, ?_⟩
                  · rw [hM]
                    refine ⟨_, by simp [HLL.out], ?_, (z1.off (grown_set _ _ _ _) hh).off (grown_set _ _ _ _) hh⟩
                    rw [Op, List.length_set]
                    exact World.ownsRow.kept (World.ownsRow.kept z2 (grown_set _ _ _ _) (.inr hv1)) (grown_set _ _ _ _) (.inr hv1)
                  · exact (((((q4.trans (kb1.mono (by omega))).trans (grown_below hg (by omega) (fun k e => (hyb k e).1))).setCell (by dsimp only; omega) _).setCell (by dsimp only; omega) _).setCell (by dsimp only; omega) _).setCell (by dsimp only; omega) _
            have HY1 : Hid _ := Y1
            have HR1 : Hid _ := R1
            have HW1 : Hid (wr.drew.alloc (Obj.cells #[.int .i64 x, .bool false] 42) = W1) := hW1
            have e1 : W1.cell? ⟨w.heap.size, 1, none⟩ = some (.slice (some ⟨g, 0, none⟩) lv.length cap) := by rw [kb1.cell (by dsimp only; omega)]; exact c1
            have e2 : W1.cell? ⟨g, j * 2 + 1, none⟩ = some (.slice ay ls.length cy) := by rw [kb1.cell (by dsimp only; omega)]; exact g1
            obtain ⟨S, hS⟩ : ∃ S : World → Prop, ∀ W, S W ↔ W.cell? ⟨w.heap.size, 1, none⟩ = some (.slice (some ⟨g, 0, none⟩) lv.length cap) ∧ W.cell? ⟨g, j * 2 + 1, none⟩ = some (.slice ay ls.length cy) := ⟨_, fun _ => Iff.rfl⟩
            have z0 : ∀ W : At S, W.wd.cell? ⟨w.heap.size, 1, none⟩ = some (.slice (some ⟨g, 0, none⟩) lv.length cap) := fun W => ((hS _).1 W.ok).1
            have z1 : ∀ W : At S, W.wd.cell? ⟨g, j * 2 + 1, none⟩ = some (.slice ay ls.length cy) := fun W => ((hS _).1 W.ok).2
            have HSI : Hid (∀ W, W.cell? ⟨w.heap.size, 1, none⟩ = some (.slice (some ⟨g, 0, none⟩) lv.length cap) → W.cell? ⟨g, j * 2 + 1, none⟩ = some (.slice ay ls.length cy) → S W) := fun W h1 h2 => (hS W).2 ⟨h1, h2⟩
            have HS0 : Hid (S wr.drew) := HSI.out _ c1 g1
            have HS1 : Hid (S W1) := HSI.out _ e1 e2
            have ne2 : Nonempty (At S) := ⟨⟨_, HS1.out⟩⟩
            have n1 : ¬ g = w.heap.size := by omega
            have n2 : ¬ w.heap.size = g := by omega
            have n3 : ¬ g = w.heap.size + 1 := by omega
            have n4 : ¬ w.heap.size + 1 = g := by omega
            clear hS q0 q1 q2 q3 q4 hq1 hq2 hq3 hq4 hp hpk hno hls hy hfull hM hyb hyg hW1 kb1 Y1 R1 L1 O1 B1 B2 e1 e2
            go_wp2
            refine region_mixA [true, true, true, true, true, true, true, true, true, true, true, false, false, false, false, false] 13 2 S (by kernel_rfl) rfl (by kernel_rfl) (fun _ _ _ _ _ h => h) HS0.out ?_
            simp only [selT, selF]
            repeat (go_big_quiet_step (fail))
            refine wpQuiet_nil ?_
            refine tail_step ?_
            go_wp2
            rw [show (wr.alloc (Obj.cells #[.int .i64 x, .bool false] 42)).drew = W1 from HW1.out]
            refine ⟨HS1.out, tail_step ?_⟩
            go_wp2_with (at_builtin; refine appLegs rfl _ _ rfl base _ ls rfl HY1.out _ [(x, false)] rfl HR1.out (by simp; omega) (by omega) ?_)
            intro v' w4 ho4 hg4 hv4
            obtain ⟨⟨⟨t0, t1⟩, ⟨t2, t3, t4, t5⟩, ⟨t6, t7, t8, t9⟩⟩, hfin⟩ := FIN.out v' w4 ho4 hg4 (by simpa [hs1] using hv4)
            have HFF : Hid _ := hfin
            have HS4 : Hid (S w4) := HSI.out _ t1 t7
            obtain ⟨a4, c4, hv5, -, -, -⟩ := own_form ho4
            rw [show (ls ++ [(x, false)]).length = ls.length + 1 by simp] at hv5
            subst hv5
            clear ho4 hg4 hv4 hfin FIN HY1 HR1 c0 c1 d0 d1 f0 f1 g0 g1
            go_wp2
            refine ⟨HS4.out, tail_end ?_⟩
            go_wp2
            exact bodyPost_ret (v := .tuple #[.agg #[.int .i64 n, .slice (some ⟨g, 0, none⟩) lv.length cap], .int .i64 0]) (results_26 rfl _ _ _ _ _ _ rfl rfl (HFF.out _ rfl).1) rfl (HFF.out _ rfl).2
      · obtain rfl : j = lv.length := by omega
        have HM : Hid (pickM cs x = (cs, 4)) := by
          show pickM cs x = (cs, 4)
          have : cs.findIdx? (fun c => c.1) = none := by
            rw [List.findIdx?_eq_none_iff]
            intro c hc
            obtain ⟨t, ht, rfl⟩ := List.getElem_of_mem hc
            exact hno.out t ht (by have := HLL.out; omega)
          simp [pickM, HC.out, this]
        clear hno
        go_wp2
        exact bodyPost_ret (v := .tuple #[.agg #[.int .i64 n, .slice av lv.length cap], .int .i64 4]) (results_26 rfl _ _ _ _ _ _ rfl rfl (SAME.out wr 4 HB.out _ rfl).1) rfl ((SAME.out wr 4 HB.out _ rfl).2 HM.out)
end Go.Proofs.Ytcbeaimpmjljjaa
