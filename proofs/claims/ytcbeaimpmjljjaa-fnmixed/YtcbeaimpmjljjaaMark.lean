/- The contracts of the laws' helpers that mark panels; no condition. -/
import Derived.Test.YtcbeaimpmjljjaaSlT
import Derived.Test.YtcbeaimpmjljjaaPanT
import Derived.Test.YtcbeaimpmjljjaaWir
namespace Go.Proofs.Ytcbeaimpmjljjaa
open Go.RowKit Go.ChangeShapes Go.WideShapes Go.ChangeAt
set_option linter.unusedVariables false
set_option linter.unusedSimpArgs false
set_option maxRecDepth 8000
theorem pr_set1 {α : Type} (f g : α → Value) : ∀ (ls : List α) (i : Nat) (x : α) (h : i < ls.length), g x = g ls[i] → (pr f g ls).set (i * 2) (f x) = pr f g (ls.set i x)
  | y :: r, 0, x, _, e => by simp at e; simp [pr, e]
  | y :: r, i + 1, x, h, e => by
    have := pr_set1 f g r i x (by simpa using h) (by simpa using e)
    rw [show (i + 1) * 2 = i * 2 + 2 by omega]
    simpa [pr] using this
theorem own_set1 {α : Type} {f g : α → Value} {e : TypeId} {base b cap : Nat} {w : World} {ls : List α} (h : Op f g e base w (.slice (some ⟨b, 0, none⟩) ls.length cap) ls) (j : Nat) (hj : j < ls.length) (x : α) (hx : g x = g ls[j]) :
    Op f g e base (w.setCell ⟨b, j * 2, none⟩ (f x)) (.slice (some ⟨b, 0, none⟩) ls.length cap) (ls.set j x) := by
  have h1 := (World.ownsRow.stored h (j * 2) (f x)).1
  rw [pr_set1 f g ls j x hj hx] at h1
  rw [Op, List.length_set]; exact h1
/-- the legs that are marked from q on -/
def mkLegs (q : Int) (n : Nat) : Legs2 := (List.range n).map fun i : Nat => (q + 2 * (i : Int), (q + 2 * (i : Int) + 1) % 3 == 0)
theorem mkLegs_len (q : Int) (n : Nat) : (mkLegs q n).length = n := by simp [mkLegs]
theorem mkLegs_succ (q : Int) (n : Nat) : mkLegs q (n + 1) = mkLegs q n ++ [(q + 2 * (n : Int), (q + 2 * (n : Int) + 1) % 3 == 0)] := by simp [mkLegs, List.range_succ]
theorem mkLegs_set (q : Int) (ls : Legs2) (j : Nat) (h : j < ls.length) : (mkLegs q j ++ ls.drop j).set j (q + 2 * (j : Int), (q + 2 * (j : Int) + 1) % 3 == 0) = mkLegs q (j + 1) ++ ls.drop (j + 1) := by
  rw [List.drop_eq_getElem_cons h, mkLegs_succ, List.set_append]
  simp only [mkLegs_len, Nat.lt_irrefl, if_false, Nat.sub_self, List.set_cons_zero, List.append_assoc, List.cons_append, List.nil_append]
set_option maxHeartbeats 1600000 in
theorem markLegS_c (v : Value) (ls : Legs2) (q : Int) (base : Nat) (w : World) (h : Op lf lg 42 base w v ls) (h0 : 0 ≤ q) (hq : q + 2 * ls.length ≤ 1152921504606846976) :
   Calls Try.prog 93 #[v, .int .i64 q] w fun e w' => e = .returned (.int .i64 (q + 2 * ls.length)) ∧ Op lf lg 42 base w' v (mkLegs q ls.length) ∧ w.grownBy w' v.ownBlock := by
  have hh := h
  rcases h.2 with ⟨rfl, hn⟩ | ⟨g, cap, cur, rfl, hb, hg, hnc, hcm, hcs, ht⟩
  · obtain rfl : ls = [] := List.eq_nil_of_length_eq_zero hn
    clear hn h
    go_enter Try.func93, Try.ntmps93
    go_wp2
    refine wp_loop_rounds 1 ?_
    rw [rounds_succ]
    go_wp2
    go_ret
    exact ⟨by simp, by simpa [mkLegs] using hh, grown_refl _ _⟩
  · clear h hg hcs ht
    unfold maxLen at hcm
    go_enter Try.func93, Try.ntmps93
    go_wp2
    go_loopw [1, 5] (fun c i wr => ∃ j : Nat, j ≤ ls.length ∧ i = .int .i64 j ∧ c = .int .i64 (q + 2 * j) ∧ Hid (Op lf lg 42 base wr (.slice (some ⟨g, 0, none⟩) ls.length cap) (mkLegs q j ++ ls.drop j)) ∧ Hid (w.grownBy wr (some g))) (fun _ i _ => ls.length - (intOf i).toNat)
    case atStart => exact ⟨0, Nat.zero_le _, rfl, by simp, (by simpa [mkLegs] using hh : Op lf lg 42 base w (.slice (some ⟨g, 0, none⟩) ls.length cap) (mkLegs q 0 ++ ls.drop 0)), grown_refl _ _⟩
    case round =>
      obtain ⟨j, hj, rfl, rfl, hw, hbr⟩ := hrel
      by_cases hlt : j < ls.length
      · have hlen : (mkLegs q j ++ ls.drop j).length = ls.length := by simp [mkLegs_len]; omega
        have hO : Op lf lg 42 base wr (.slice (some ⟨g, 0, none⟩) (mkLegs q j ++ ls.drop j).length cap) (mkLegs q j ++ ls.drop j) := by rw [hlen]; exact hw.out
        have hp := pr_at lf lg (mkLegs q j ++ ls.drop j) j (by omega)
        obtain ⟨y0, d0⟩ : ∃ u, wr.cell? ⟨g, j * 2, none⟩ = some u := ⟨_, (World.ownsRow.cellAt hO (j * 2) (by omega)).trans hp.1⟩
        obtain ⟨y1, d1⟩ : ∃ u, wr.cell? ⟨g, j * 2 + 1, none⟩ = some u := ⟨_, (World.ownsRow.cellAt hO (j * 2 + 1) (by omega)).trans hp.2⟩
        have f0 := World.ownsRow.frozenAt hO (j * 2)
        have f1 := World.ownsRow.frozenAt hO (j * 2 + 1)
        have hS := own_set2 hO j (by omega) (q + 2 * (j : Int), (q + 2 * (j : Int) + 1) % 3 == 0)
        rw [mkLegs_set q ls j hlt, hlen] at hS
        have HS : Hid (Op lf lg 42 base ((wr.setCell ⟨g, j * 2, none⟩ (.int .i64 (q + 2 * (j : Int)))).setCell ⟨g, j * 2 + 1, none⟩ (.bool ((q + 2 * (j : Int) + 1) % 3 == 0))) (.slice (some ⟨g, 0, none⟩) ls.length cap) (mkLegs q (j + 1) ++ ls.drop (j + 1))) := hS
        have HG : Hid (w.grownBy ((wr.setCell ⟨g, j * 2, none⟩ (.int .i64 (q + 2 * (j : Int)))).setCell ⟨g, j * 2 + 1, none⟩ (.bool ((q + 2 * (j : Int) + 1) % 3 == 0))) (some g)) := grown_trans (grown_trans hbr.out (grown_set _ _ _ _)) (grown_set _ _ _ _)
        clear hO hp hS hw hbr hh
        go_wp2
        go_roundw
        case rel => exact ⟨j + 1, by omega, by go_num, by go_num, HS.out, HG.out⟩
        case measure => simp [intOf]; omega
      · obtain rfl : j = ls.length := by omega
        clear hh
        go_wp2
        go_ret
        exact ⟨rfl, by have := hw.out; simpa using this, hbr.out⟩
/-- a panel's calls, owned from base on, below hi -/
def OwCH (base hi : Nat) (w : World) (v : Value) (cs : Calls2) : Prop :=
  ∃ lv : List (Value × Value), lv.length = cs.length ∧ Op Prod.fst Prod.snd 45 base w v lv ∧ OwL base w v.ownBlock lv cs ∧ (∀ k, v.ownBlock = some k → k < hi) ∧ ∀ i (h : i < lv.length) k, lv[i].2.ownBlock = some k → k < hi
theorem OwC.hi {base : Nat} {w : World} {v : Value} {cs : Calls2} (h : OwC base w v cs) : OwCH base w.heap.size w v cs := by
  obtain ⟨lv, h1, h2, h3⟩ := h
  exact ⟨lv, h1, h2, h3, fun k e => (World.ownsRow.lt h2 k e).2, fun i hi k e => (World.ownsRow.lt (h3 i hi (by omega)).2.1 k e).2⟩
theorem OwCH.ow {base hi : Nat} {w : World} {v : Value} {cs : Calls2} (h : OwCH base hi w v cs) : OwC base w v cs := by
  obtain ⟨lv, h1, h2, h3, -⟩ := h
  exact ⟨lv, h1, h2, h3⟩
theorem OwCH.below {base hi : Nat} {w w' : World} {v : Value} {cs : Calls2} (h : OwCH base hi w v cs) (hb : Below w.heap.size w w') : OwCH base hi w' v cs := by
  obtain ⟨lv, h1, h2, h3, h4⟩ := h
  exact ⟨lv, h1, h2.below hb, h3.grown (below_grown hb) (.inl rfl), h4⟩
theorem OwCH.mid {base hi lo' hi' : Nat} {w w' : World} {v : Value} {cs : Calls2} (h : OwCH base hi w v cs) (hm : Mid lo' hi' w w') (ho : hi ≤ lo' ∨ hi' ≤ base) : OwCH base hi w' v cs := by
  obtain ⟨lv, h1, h2, h3, h4, h5⟩ := h
  refine ⟨lv, h1, ownsRow_mid h2 hm (fun k e => ?_), fun i hi hi' => ?_, h4, h5⟩
  · have := h4 k e; have := (World.ownsRow.lt h2 k e).1; omega
  · obtain ⟨q1, q2, q3, q4⟩ := h3 i hi hi'
    refine ⟨q1, ownsRow_mid q2 hm (fun k e => ?_), q3, q4⟩
    have := h5 i hi k e; have := (World.ownsRow.lt q2 k e).1; omega
theorem OwL.mark {base : Nat} {w1 w2 : World} {blk : Option Nat} {lv : List (Value × Value)} {cs : Calls2} (h : OwL base w1 blk lv cs) {j : Nat} (hj : j < lv.length) (hj' : j < cs.length) (b : Bool) (ls' : Legs2) (hg : w1.grownBy w2 lv[j].2.ownBlock) (hO : Op lf lg 42 base w2 lv[j].2 ls') :
    OwL base w2 blk (lv.set j (.bool b, lv[j].2)) (cs.set j (b, ls')) := by
  intro i hi hi'
  have hi1 : i < lv.length := by simpa using hi
  have hi2 : i < cs.length := by simpa using hi'
  obtain ⟨q1, q2, q3, q4⟩ := h i hi1 hi2
  by_cases e : i = j
  · subst e
    refine ⟨by simp, by simpa using hO, by simpa using q3, fun t ht hti => ?_⟩
    have ht1 : t < lv.length := by simpa using ht
    have hne2 : ¬ i = t := by omega
    simp only [List.getElem_set_ne hne2, List.getElem_set_self]
    exact q4 t ht1 hti
  · have hne : ¬ j = i := fun h => e h.symm
    refine ⟨by rw [List.getElem_set_ne hne, List.getElem_set_ne hne]; exact q1, ?_, by rw [List.getElem_set_ne hne]; exact q3, fun t ht hti => ?_⟩
    · rw [List.getElem_set_ne hne, List.getElem_set_ne hne]
      refine World.ownsRow.kept q2 hg ?_
      rcases Nat.lt_or_ge j i with hl | hl
      · exact q4 j hj hl
      · have := (h j hj hj').2.2.2 i hi1 (by omega)
        cases hv : lv[i].2.ownBlock with
        | none => exact .inl rfl
        | some k =>
          refine .inr fun e2 => ?_
          rcases this with h0 | h0
          · rw [h0] at e2; cases e2
          · exact h0 (by rw [hv]; exact e2.symm)
    · have ht1 : t < lv.length := by simpa using ht
      rw [List.getElem_set_ne hne]
      by_cases e3 : t = j
      · subst e3; simpa using q4 t ht1 hti
      · rw [List.getElem_set_ne (fun h => e3 h.symm)]; exact q4 t ht1 hti
/-- the calls that are marked from q on, and the mark behind them -/
def mkCs (q : Int) : Calls2 → Calls2
  | [] => []
  | c :: r => (q % 3 == 0, mkLegs (q + 1) c.2.length) :: mkCs (q + 1 + 2 * c.2.length) r
def mkEnd (q : Int) : Calls2 → Int
  | [] => q
  | c :: r => mkEnd (q + 1 + 2 * c.2.length) r
theorem mkCs_len : ∀ (cs : Calls2) (q : Int), (mkCs q cs).length = cs.length
  | [], q => rfl
  | c :: r, q => by simp [mkCs, mkCs_len r]
theorem mkCs_snoc : ∀ (cs : Calls2) (c : Bool × Legs2) (q : Int), mkCs q (cs ++ [c]) = mkCs q cs ++ [(mkEnd q cs % 3 == 0, mkLegs (mkEnd q cs + 1) c.2.length)] ∧ mkEnd q (cs ++ [c]) = mkEnd q cs + 1 + 2 * c.2.length
  | [], c, q => by simp [mkCs, mkEnd]
  | d :: r, c, q => by
    have := mkCs_snoc r c (q + 1 + 2 * d.2.length)
    simp [mkCs, mkEnd, this]
theorem mkEnd_ge : ∀ (cs : Calls2) (q : Int), q ≤ mkEnd q cs
  | [], q => by simp [mkEnd]
  | c :: r, q => by have := mkEnd_ge r (q + 1 + 2 * c.2.length); simp only [mkEnd]; omega
theorem mkEnd_app : ∀ (a b : Calls2) (q : Int), mkEnd q (a ++ b) = mkEnd (mkEnd q a) b
  | [], b, q => rfl
  | c :: r, b, q => by simp [mkEnd, mkEnd_app r b]
theorem mkEnd_mono (cs : Calls2) (q : Int) (j : Nat) : mkEnd q (cs.take j) ≤ mkEnd q cs := by
  conv => rhs; rw [← List.take_append_drop j cs]
  rw [mkEnd_app]
  exact mkEnd_ge _ _
set_option maxHeartbeats 1600000 in
theorem markCallS_c (v : Value) (cs : Calls2) (q : Int) (base hi : Nat) (w : World) (h : OwCH base hi w v cs) (h0 : 0 ≤ q) (hq : mkEnd q cs ≤ 1152921504606846976) :
   Calls Try.prog 75 #[v, .int .i64 q] w fun e w' => e = .returned (.int .i64 (mkEnd q cs)) ∧ OwCH base hi w' v (mkCs q cs) ∧ Mid base hi w w' := by
  have hh := h
  obtain ⟨lv0, hl0, ho0, -, hvb, -⟩ := h
  rcases ho0.2 with ⟨rfl, hn⟩ | ⟨g, cap, cur, rfl, hb, hg, hnc, hcm, hcs, ht⟩
  · obtain rfl : cs = [] := List.eq_nil_of_length_eq_zero (by omega)
    clear hn ho0
    go_enter Try.func75, Try.ntmps75
    go_wp2
    refine wp_loop_rounds 1 ?_
    rw [rounds_succ]
    go_wp2
    go_ret
    exact ⟨by simp [mkEnd], hh, Mid.refl _ _ _⟩
  · have hgb := hvb g rfl
    rw [hl0] at hh hnc ⊢
    clear ho0 hg hcs ht hvb hl0
    unfold maxLen at hcm
    go_enter Try.func75, Try.ntmps75
    go_wp2
    go_loopw [1, 5] (fun c i wr => ∃ j : Nat, j ≤ cs.length ∧ i = .int .i64 j ∧ c = .int .i64 (mkEnd q (cs.take j)) ∧ Hid (OwCH base hi wr (.slice (some ⟨g, 0, none⟩) cs.length cap) (mkCs q (cs.take j) ++ cs.drop j)) ∧ Hid (Mid base hi w wr)) (fun _ i _ => cs.length - (intOf i).toNat)
    case atStart => exact ⟨0, Nat.zero_le _, rfl, by simp [mkEnd], (by simpa [mkCs] using hh : OwCH base hi w (.slice (some ⟨g, 0, none⟩) cs.length cap) (mkCs q (cs.take 0) ++ cs.drop 0)), Mid.refl _ _ _⟩
    case round =>
      obtain ⟨j, hj, rfl, rfl, hw, hbr⟩ := hrel
      by_cases hlt : j < cs.length
      · obtain ⟨lv, l1, l2, l3, l4, l5⟩ := hw.out
        have hcl : (mkCs q (cs.take j) ++ cs.drop j).length = cs.length := by simp [mkCs_len]; omega
        have hjl : j < lv.length := by omega
        have hlc : lv.length = cs.length := by omega
        have l2' : Op Prod.fst Prod.snd 45 base wr (.slice (some ⟨g, 0, none⟩) lv.length cap) lv := by rw [hlc]; exact l2
        obtain ⟨q1, q2, q3, q4⟩ := l3 j hjl (by omega)
        have hcj : (mkCs q (cs.take j) ++ cs.drop j)[j]'(by omega) = cs[j] := by
          rw [List.getElem_append_right (by simp [mkCs_len]; omega)]
          simp [mkCs_len, show min j cs.length = j by omega]
        rw [hcj] at q2
        obtain ⟨x, hx⟩ : ∃ x, lv[j].2 = x := ⟨_, rfl⟩
        rw [hx] at q2 q3
        obtain ⟨qe, hqe⟩ : ∃ qe, mkEnd q (cs.take j) = qe := ⟨_, rfl⟩
        have hqe0 : 0 ≤ qe := by rw [← hqe]; have := mkEnd_ge (cs.take j) q; omega
        have hnx : mkEnd q (cs.take (j + 1)) = qe + 1 + 2 * cs[j].2.length := by
          rw [List.take_succ_eq_append_getElem hlt, (mkCs_snoc _ _ _).2, hqe]
        have hqb : qe + 1 + 2 * cs[j].2.length ≤ 1152921504606846976 := by
          have := mkEnd_mono cs q (j + 1)
          rw [hnx] at this; omega
        have hp := pr_at Prod.fst Prod.snd lv j hjl
        obtain ⟨y0, d0⟩ : ∃ u, wr.cell? ⟨g, j * 2, none⟩ = some u := ⟨_, (World.ownsRow.cellAt l2' (j * 2) (by omega)).trans hp.1⟩
        have d1 : wr.cell? ⟨g, j * 2 + 1, none⟩ = some x := by rw [← hx]; exact (World.ownsRow.cellAt l2' (j * 2 + 1) (by omega)).trans hp.2
        have f0 := World.ownsRow.frozenAt l2' (j * 2)
        have q2' := World.ownsRow.kept q2 (grown_set wr g (j * 2) (.bool (qe % 3 == 0))) (by
          rcases q3 with h | h
          · exact .inl h
          · exact .inr h)
        have HM : Hid (Calls Try.prog 93 #[x, .int .i64 (qe + 1)] (wr.setCell ⟨g, j * 2, none⟩ (.bool (qe % 3 == 0))) fun e w' => e = .returned (.int .i64 (qe + 1 + 2 * cs[j].2.length)) ∧ Op lf lg 42 base w' x (mkLegs (qe + 1) cs[j].2.length) ∧ (wr.setCell ⟨g, j * 2, none⟩ (.bool (qe % 3 == 0))).grownBy w' x.ownBlock) := markLegS_c x cs[j].2 (qe + 1) base _ q2' (by omega) (by omega)
        have HLV : Hid (lv.length = cs.length ∧ Op Prod.fst Prod.snd 45 base wr (.slice (some ⟨g, 0, none⟩) lv.length cap) lv ∧ OwL base wr (some g) lv (mkCs q (cs.take j) ++ cs.drop j) ∧ (∀ i (h : i < lv.length) k, lv[i].2.ownBlock = some k → k < hi) ∧ lv[j].2 = x) := ⟨hlc, l2', l3, l5, hx⟩
        have HQ3 : Hid (x.ownBlock = none ∨ x.ownBlock ≠ some g) := q3
        have HXB : Hid (∀ k, x.ownBlock = some k → base ≤ k ∧ k < hi) := fun k e => ⟨(World.ownsRow.lt q2 k e).1, l5 j hjl k (by rw [hx]; exact e)⟩
        have HNX : Hid (mkEnd q (cs.take (j + 1)) = qe + 1 + 2 * cs[j].2.length ∧ mkEnd q (cs.take j) = qe) := ⟨hnx, hqe⟩
        rw [hqe]
        have hxs : ∃ a n c, x = .slice a n c := by
          obtain ⟨a, c, hv, -⟩ := own_form q2
          exact ⟨a, _, c, hv⟩
        obtain ⟨ax, nx, cx, rfl⟩ := hxs
        clear hw l1 l2 l2' l3 l4 l5 q1 q2 q2' q3 q4 hcj hp hh hcl hqe hnx hx hlc
        go_wp2_with (fail)
        refine HM.out.mono ?_
        rintro e w3 ⟨rfl, o3, g3⟩
        have HNEW : Hid (OwCH base hi w3 (.slice (some ⟨g, 0, none⟩) cs.length cap) (mkCs q (cs.take (j + 1)) ++ cs.drop (j + 1)) ∧ Mid base hi w w3) := by
          obtain ⟨m1, m2, m3, m4, m5⟩ := HLV.out
          have e1 : mkCs q (cs.take (j + 1)) ++ cs.drop (j + 1) = (mkCs q (cs.take j) ++ cs.drop j).set j (qe % 3 == 0, mkLegs (qe + 1) cs[j].2.length) := by
            rw [List.take_succ_eq_append_getElem hlt, (mkCs_snoc _ _ _).1, HNX.out.2, List.drop_eq_getElem_cons hlt, List.set_append]
            simp only [mkCs_len, List.length_take, show min j cs.length = j by omega, Nat.lt_irrefl, if_false, Nat.sub_self, List.set_cons_zero, List.append_assoc, List.cons_append, List.nil_append]
          have hsz : (mkCs q (cs.take j) ++ cs.drop j).length = cs.length := by simp [mkCs_len]; omega
          have s1 := own_set1 m2 j hjl (.bool (qe % 3 == 0), lv[j].2) rfl
          rw [m5] at s1
          have s2 : Op Prod.fst Prod.snd 45 base w3 (.slice (some ⟨g, 0, none⟩) cs.length cap) (lv.set j (.bool (qe % 3 == 0), .slice ax nx cx)) := by
            have := World.ownsRow.kept s1 g3 (by
              rcases HQ3.out with h | h
              · rw [h]; exact .inr (by simp [Value.ownBlock])
              · exact .inr (fun e => h (by rw [← e]; rfl)))
            rw [← m1]; exact this
          have s3 := (m3.grown (grown_set wr g (j * 2) (.bool (qe % 3 == 0))) (.inr rfl)).mark hjl (by omega) (qe % 3 == 0) (mkLegs (qe + 1) cs[j].2.length) (by rw [m5]; exact g3) (by rw [m5]; exact o3)
          rw [m5, ← e1] at s3
          have hgg : ∀ k, (Value.slice (some ⟨g, 0, none⟩) cs.length cap).ownBlock = some k → k < hi := by
            intro k e
            have : k = g := by simpa [Value.ownBlock] using e.symm
            omega
          refine ⟨⟨_, by simp [mkCs_len, m1]; omega, s2, s3, hgg, fun i hi k e => ?_⟩, ?_⟩
          · by_cases hij : i = j
            · subst hij
              simp at e
              exact (HXB.out k e).2
            · rw [List.getElem_set_ne (fun h => hij h.symm)] at e
              exact m4 i (by simpa using hi) k e
          · exact (hbr.out.trans (Mid.ofGrown (grown_set wr g (j * 2) (.bool (qe % 3 == 0))) (fun k e => by cases e; exact ⟨hb, hgb⟩))).trans (Mid.ofGrown g3 (fun k e => HXB.out k e))
        clear o3 g3 HM HLV HQ3 HXB d0 d1 f0
        go_wp2
        go_roundw
        case rel => exact ⟨j + 1, by omega, by go_num, by rw [HNX.out.1], HNEW.out.1, HNEW.out.2⟩
        case measure => simp [intOf]; omega
      · obtain rfl : j = cs.length := by omega
        clear hh
        go_wp2
        go_ret
        exact ⟨by rw [List.take_length]; rfl, by have := hw.out; simpa using this, hbr.out⟩
theorem markPanel_c (n : Int) (v : Value) (cs : Calls2) (q : Int) (base hi : Nat) (w : World) (h : OwCH base hi w v cs) (h0 : 0 ≤ q) (hq : mkEnd q cs ≤ 1152921504606846976) :
   Calls Try.prog 35 #[.agg #[.int .i64 n, v], .int .i64 q] w fun e w' => e = .returned (.int .i64 (mkEnd q cs)) ∧ OwCH base hi w' v (mkCs q cs) ∧ Mid base hi w w' := by
  have bel : Below w.heap.size w (w.alloc (Obj.cells #[.int .i64 n, v] 26)) := (Below.refl _ _).alloc (Nat.le_refl _) _
  have HM : Hid (Calls Try.prog 75 #[v, .int .i64 q] (w.alloc (Obj.cells #[.int .i64 n, v] 26)) fun e w' => e = .returned (.int .i64 (mkEnd q cs)) ∧ OwCH base hi w' v (mkCs q cs) ∧ Mid base hi (w.alloc (Obj.cells #[.int .i64 n, v] 26)) w') := markCallS_c v cs q base hi _ (h.below bel) h0 hq
  have HB : Hid (Mid base hi w (w.alloc (Obj.cells #[.int .i64 n, v] 26))) := Mid.ofBelow bel
  obtain ⟨lv, -, ho, -⟩ := h
  obtain ⟨a, cap, rfl, -⟩ := own_form ho
  clear bel ho
  go_enter Try.func35, Try.ntmps35
  go_wp2_with (fail)
  refine HM.out.mono ?_
  rintro e w2 ⟨rfl, o2, m2⟩
  have H2 : Hid (OwCH base hi w2 (.slice a lv.length cap) (mkCs q cs) ∧ Mid base hi w w2) := ⟨o2, HB.out.trans m2⟩
  clear o2 m2
  go_wp2
  go_ret
  exact ⟨rfl, H2.out.1, H2.out.2⟩
end Go.Proofs.Ytcbeaimpmjljjaa
