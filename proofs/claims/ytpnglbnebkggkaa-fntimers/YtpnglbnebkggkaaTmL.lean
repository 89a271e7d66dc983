/- FnTimers is true at every code; no condition. -/
import Derived.Test.YtpnglbnebkggkaaDue
import Derived.Test.YtpnglbnebkggkaaDdL
import Derived.Test.YtpnglbnebkggkaaOvI
import Derived.Test.YtpnglbnebkggkaaOvM
namespace Go.Proofs.Ytpnglbnebkggkaa
open Go.RowKit Go.ChangeShapes Go.WideShapes Go.ChangeAt
set_option linter.unusedVariables false
set_option linter.unusedSimpArgs false
set_option maxRecDepth 8000
/-- the tick is one of the first j presses', or the timer's behind it -/
def AtP (ps : Prs) (wt t : Int) (j : Nat) : Prop := ∃ m, m < j ∧ ∃ hm : m < ps.length, t = ps[m].ti ∨ t = ps[m].ti + wt
theorem ov_end {ls : Rls} {ps : Prs} {wt : Int} {c ro : Int} {nu : ByteArray} {k t : Int} (h : OvS ls ps wt (c, ro, nu, k) t) (hc : c ≠ 5) : (AtP ps wt t ps.length ∨ ps.length = 0) ∧ (c = 2 ∨ c = 3 ∨ c = 4) ∧ PsOk ps ∧ 1 ≤ wt ∧ wt ≤ 1000 := by
  rcases h with ⟨_, n, _⟩ | ⟨⟨_, hp, hw1, hw2⟩, j, hj, _, h⟩
  · exact absurd (congrArg Prod.fst n) hc
  · rcases h with ⟨hl, _, ⟨_, hx⟩, ht⟩ | ⟨hjl, ht, y, hy, hx⟩
    · refine ⟨.inl ⟨j, hl, hl, .inl ht⟩, ?_, hp, hw1, hw2⟩
      rcases hx with hx | hx
      · exact .inl hx
      · exact .inr (.inl hx)
    · refine ⟨?_, ?_, hp, hw1, hw2⟩
      · cases j with
        | zero =>
          rcases hjl with hjl | hjl
          · exact .inr hjl.symm
          · exact absurd hjl.1 (Nat.lt_irrefl 0)
        | succ m =>
          have hm : m < ps.length := by omega
          rw [enT_succ hm] at ht
          exact .inl ⟨m, hm, hm, .inr ht⟩
      · rcases hx with ⟨_, hx⟩ | ⟨_, hx⟩
        · exact .inl (congrArg Prod.fst hx)
        · exact .inr (.inr (congrArg Prod.fst hx))
theorem ov_bad {ls : Rls} {ps : Prs} {wt : Int} {ro : Int} {nu : ByteArray} {k t : Int} (h : OvS ls ps wt (5, ro, nu, k) t) : t = -1 := by
  have hh := h
  rcases h with ⟨_, _, ht⟩ | ⟨_, j, hj, _, h⟩
  · exact ht
  · exfalso
    rcases h with ⟨hl, _, ⟨_, hx⟩, ht⟩ | ⟨hjl, ht, y, hy, hx⟩
    · have hx' : (5 : Int) = 2 ∨ (5 : Int) = 3 := hx
      omega
    · rcases hx with ⟨_, hx⟩ | ⟨_, hx⟩
      · have : (5 : Int) = 2 := congrArg Prod.fst hx
        omega
      · have : (5 : Int) = 4 := congrArg Prod.fst hx
        omega
theorem ov_nil {c ro : Int} {nu : ByteArray} {k t : Int} (h : OvS [] [] 9 (c, ro, nu, k) t) : c = 4 ∧ t = 9 := by
  have hg : OvS [] [] 9 (4, -1, ⟨#[]⟩, -1) 9 := by
    refine .inr ⟨⟨⟨by decide, fun i hi => absurd hi (Nat.not_lt_zero i)⟩, ⟨by decide, fun i hi => absurd hi (Nat.not_lt_zero i)⟩, by decide, by decide⟩, 0, Nat.le_refl _, OnP.zero, .inr ⟨.inl rfl, rfl, (0, -1, ⟨#[]⟩, -1), .inl ⟨rfl, rfl⟩, .inr ⟨by decide, rfl⟩⟩⟩
  obtain ⟨h1, h2⟩ := h.same hg
  simp only [Prod.mk.injEq] at h1
  exact ⟨h1.1, h2⟩
set_option maxHeartbeats 25600000 in
theorem timersLaw (v : Value) (zs : List Int) (w : World) (h : Rd .u8 w v zs) (hok : ∀ z ∈ zs, (Lit.int .u8 z).wf = true) : Calls Try.prog 4 #[v] w fun e w' => e = .returned (.bool true) ∧ Below w.heap.size w w' := by
  have HK : Hid (∀ z ∈ zs, 0 ≤ z ∧ z ≤ 255) := fun z hz => bounds_u8 (hok z hz)
  have HR : Hid (Rd .u8 w v zs) := h
  have HB : Hid (Below w.heap.size w w) := Below.refl _ _
  obtain ⟨av, capv, rfl, -⟩ := h
  clear hok
  go_enter Try.func4, Try.ntmps4
  go_wp2_with (fail)
  refine (big_c _ zs w HR.out).mono ?_
  rintro e w0 ⟨rfl, hw0⟩
  rw [hw0]
  clear hw0
  by_cases hbig : (1048576 : Int) < (zs.length : Int)
  · have e0 : decide ((1048576 : Int) < (zs.length : Int)) = true := decide_eq_true hbig
    go_wp2
    go_ret
    exact ⟨rfl, HB.out⟩
  have e0 : decide ((1048576 : Int) < (zs.length : Int)) = false := decide_eq_false hbig
  have HLZ : Hid (zs.length ≤ 1048576) := by show _ ≤ _; omega
  go_wp2_with (fail)
  refine (drawOv_c _ zs w HR.out HK.out (by have := HLZ.out; omega)).mono ?_
  rintro e w1 ⟨u, ls, q, ps, wt, rfl, o1, q1, s1, s2, l1, b1⟩
  have HO1 : Hid (Orr 31 w.heap.size w1 u ls) := o1
  have HQ1 : Hid (Opq 39 w.heap.size w1 q ps) := q1
  have HB1 : Hid (Below w.heap.size w w1) := b1
  have HS1 : Hid (Szs ls ∧ Szp ps) := ⟨s1, s2⟩
  have HL1 : Hid (ps.length ≤ 300) := l1
  obtain ⟨a, cap, rfl, h1, h2, h3⟩ := own_form q1
  clear o1 q1 b1 s1 s2 l1 hbig e0 HB
  go_wp2_with (fail)
  refine (ovI_c _ _ ls ps wt w1 HO1.out.rd HQ1.out.rd HS1.out.1 HS1.out.2).mono ?_
  rintro e w2 ⟨c, ro, nu, k, t, rfl, hd, b2⟩
  have HD : Hid (OvS ls ps wt (c, ro, nu, k) t) := hd
  obtain ⟨g5, hg5⟩ : ∃ g, w2.heap.size = g := ⟨_, rfl⟩
  obtain ⟨W3, hW3⟩ : ∃ W, w2.alloc (Obj.cells (D4 c ro nu k) 28) = W := ⟨_, rfl⟩
  have al : Below w2.heap.size w2 W3 := by rw [← hW3]; exact (Below.refl _ _).alloc (Nat.le_refl _) _
  have HX3 : Hid (Bd W3 g5 c ro nu k) := ⟨by rw [← hW3, ← hg5]; exact Blk.new _ _ _⟩
  have HB3 : Hid (Below w.heap.size w W3) := belowCall (belowCall HB1.out b2 HB1.out.size) al (Nat.le_trans HB1.out.size b2.size)
  have HO3 : Hid (Orr 31 w.heap.size W3 u ls) := (HO1.out.below b2).below al
  have HQ3 : Hid (Opq 39 w.heap.size W3 (.slice a ps.length cap) ps) := (HQ1.out.below b2).below al
  have HW3 : Hid (w2.alloc (Obj.cells (D4 c ro nu k) 28) = W3 ∧ w2.heap.size = g5) := ⟨hW3, hg5⟩
  clear hd al hW3 hg5 b2 HB1 HO1 HQ1
  go_wp2_with (fail)
  rw [HW3.out.1, HW3.out.2]
  refine (ovM_c _ _ ls ps wt W3 HO3.out.rd HQ3.out.rd HS1.out.1 HS1.out.2).mono ?_
  rintro e w4 ⟨c', ro', nu', k', t', rfl, hd, b4⟩
  obtain ⟨⟨rfl, rfl, rfl, rfl⟩, rfl⟩ : (c = c' ∧ ro = ro' ∧ nu = nu' ∧ k = k') ∧ t = t' := by have := HD.out.same hd; simpa using this
  obtain ⟨g6, hg6⟩ : ∃ g, w4.heap.size = g := ⟨_, rfl⟩
  obtain ⟨W5, hW5⟩ : ∃ W, w4.alloc (Obj.cells (D4 c ro nu k) 28) = W := ⟨_, rfl⟩
  have al : Below w4.heap.size w4 W5 := by rw [← hW5]; exact (Below.refl _ _).alloc (Nat.le_refl _) _
  have HX5 : Hid (Bd W5 g5 c ro nu k) := (HX3.out.below b4).below al
  have HY5 : Hid (Bd W5 g6 c ro nu k) := ⟨by rw [← hW5, ← hg6]; exact Blk.new _ _ _⟩
  have HB5 : Hid (Below w.heap.size w W5) := belowCall (belowCall HB3.out b4 HB3.out.size) al (Nat.le_trans HB3.out.size b4.size)
  have HQ5 : Hid (Opq 39 w.heap.size W5 (.slice a ps.length cap) ps) := (HQ3.out.below b4).below al
  have HW5 : Hid (w4.alloc (Obj.cells (D4 c ro nu k) 28) = W5 ∧ w4.heap.size = g6) := ⟨hW5, hg6⟩
  clear hd al hW5 hg6 b4 HB3 HO3 HX3 HW3 HQ3
  go_upto_region 6 with fail
  rw [HW5.out.1, HW5.out.2]
  clear HW5
  have x0 := HX5.out.b.cell 0
  have x2 := HX5.out.b.cell 2
  have y0 := HY5.out.b.cell 0
  have y2 := HY5.out.b.cell 2
  simp at x0 x2 y0 y2
  have nc : (c != c) = false := by simp
  have nk : (t != t) = false := by simp
  go_wp2_with (fail)
  clear x0 x2 y0 y2 nc nk
  refine (ovI_c (.slice none 0 0) (.slice none 0 0) [] [] 9 W5 ⟨none, 0, rfl, Nat.le_refl _, by simp [maxLen], .inl rfl⟩ ⟨none, 0, rfl, Nat.le_refl _, by simp [maxLen], .inl rfl⟩ (fun r hr => by simp at hr) (fun r hr => by simp at hr)).mono ?_
  rintro e w7 ⟨c1, ro1, nu1, k1, t1, rfl, hd, b7⟩
  obtain ⟨rfl, rfl⟩ := ov_nil hd
  obtain ⟨g7, hg7⟩ : ∃ g, w7.heap.size = g := ⟨_, rfl⟩
  obtain ⟨W8, hW8⟩ : ∃ W, w7.alloc (Obj.cells (D4 4 ro1 nu1 k1) 28) = W := ⟨_, rfl⟩
  have al : Below w7.heap.size w7 W8 := by rw [← hW8]; exact (Below.refl _ _).alloc (Nat.le_refl _) _
  have HX8 : Hid (Bd W8 g5 c ro nu k) := (HX5.out.below b7).below al
  have HY8 : Hid (Bd W8 g6 c ro nu k) := (HY5.out.below b7).below al
  have HZ8 : Hid (Bd W8 g7 4 ro1 nu1 k1) := ⟨by rw [← hW8, ← hg7]; exact Blk.new _ _ _⟩
  have HB8 : Hid (Below w.heap.size w W8) := belowCall (belowCall HB5.out b7 HB5.out.size) al (Nat.le_trans HB5.out.size b7.size)
  have HQ8 : Hid (Opq 39 w.heap.size W8 (.slice a ps.length cap) ps) := (HQ5.out.below b7).below al
  have HW8 : Hid (w7.alloc (Obj.cells (D4 4 ro1 nu1 k1) 28) = W8 ∧ w7.heap.size = g7) := ⟨hW8, hg7⟩
  clear hd al hW8 hg7 b7 HB5 HX5 HY5 HQ5
  go_upto_region 9 with fail
  rw [HW8.out.1, HW8.out.2]
  clear HW8
  have x0 := HX8.out.b.cell 0
  have y0 := HY8.out.b.cell 0
  have z0 := HZ8.out.b.cell 0
  simp at x0 y0 z0
  by_cases hc5 : c = 5
  · subst hc5
    obtain rfl := ov_bad HD.out
    go_wp2
    go_ret
    exact ⟨rfl, HB8.out⟩
  obtain ⟨hat, hcc, hps, hw1, hw2⟩ := ov_end HD.out hc5
  have n5 : (c == 5) = false := by simpa using hc5
  have HAT : Hid (AtP ps wt t ps.length ∨ ps.length = 0) := hat
  have HPS : Hid (PsOk ps) := hps
  have HCC : Hid (c = 2 ∨ c = 3 ∨ c = 4) := hcc
  have hl20 := hps.1
  have HQC : Hid (∀ i (h : i < ps.length), ∃ b, a = some ⟨b, 0, none⟩ ∧ W8.cell? ⟨b, i * 2, none⟩ = some (.int .i64 ps[i].ti)) := fun i h => by
    rcases h3 with h3 | ⟨b, rfl⟩
    · omega
    refine ⟨b, rfl, ?_⟩
    rw [World.ownsRow.cellAt HQ8.out (i * 2) (by omega)]
    exact (pq_at ps i h).1
  clear hat hps hcc h3 hc5
  go_wp2_with (fail)
  clear x0 y0 z0 n5
  go_loop [12, 13] (fun q i => ∃ (j : Nat) (r : Bool), j ≤ ps.length ∧ q = .bool r ∧ i = .int .i64 j ∧ Hid (r = true ↔ AtP ps wt t j)) (fun _ i => ps.length - (intOf i).toNat)
  case atStart => exact ⟨0, false, Nat.zero_le _, rfl, rfl, ⟨fun h => (by cases h), fun ⟨m, hm, _⟩ => absurd hm (Nat.not_lt_zero m)⟩⟩
  case round =>
    obtain ⟨j, r, hj, rfl, rfl, hA⟩ := hrel
    by_cases hlt : j < ps.length
    case pos =>
      have hltI : (j : Int) < (ps.length : Int) := by omega
      have hl0 : (0 : Int) ≤ (j : Int) := by omega
      obtain ⟨b, rfl, cj⟩ := HQC.out j hlt
      have hpj := (HPS.out.2 j hlt hlt).1.1
      obtain ⟨p, hp⟩ : ∃ p, ps[j] = p := ⟨_, rfl⟩
      rw [hp] at cj hpj
      obtain ⟨ti, di⟩ := p
      dsimp only at cj hpj
      have HN : Hid (∀ r' : Bool, r' = (r || (t == ti) || (t == ti + wt)) → (r' = true ↔ AtP ps wt t (j + 1))) := fun r' hr' => by
        rw [hr', Bool.or_eq_true, Bool.or_eq_true, beq_iff_eq, beq_iff_eq, hA.out]
        constructor
        · rintro ((⟨m, hm, h1⟩ | h) | h)
          · exact ⟨m, by omega, h1⟩
          · exact ⟨j, by omega, hlt, .inl (by rw [hp]; exact h)⟩
          · exact ⟨j, by omega, hlt, .inr (by rw [hp]; exact h)⟩
        · rintro ⟨m, hm, h0, h1⟩
          by_cases e : m < j
          · exact .inl (.inl ⟨m, e, h0, h1⟩)
          · obtain rfl : m = j := by omega
            rw [hp] at h1
            rcases h1 with h1 | h1
            · exact .inl (.inr h1)
            · exact .inr h1
      clear hp hA
      cases r
      · cases e1 : (t == ti)
        · cases e2 : (t == ti + wt)
          · have HN2 : Hid (false = true ↔ AtP ps wt t (j + 1)) := HN.out _ (by rw [e1, e2]; rfl)
            go_wp2
            go_round
            case rel => exact ⟨j + 1, false, by omega, rfl, by go_num, HN2.out⟩
            case measure => simp [intOf]; omega
          · have HN2 : Hid (true = true ↔ AtP ps wt t (j + 1)) := HN.out _ (by rw [e1, e2]; rfl)
            go_wp2
            go_round
            case rel => exact ⟨j + 1, true, by omega, rfl, by go_num, HN2.out⟩
            case measure => simp [intOf]; omega
        · have HN2 : Hid (true = true ↔ AtP ps wt t (j + 1)) := HN.out _ (by rw [e1]; rfl)
          go_wp2
          go_round
          case rel => exact ⟨j + 1, true, by omega, rfl, by go_num, HN2.out⟩
          case measure => simp [intOf]; omega
      · have HN2 : Hid (true = true ↔ AtP ps wt t (j + 1)) := HN.out _ rfl
        go_wp2
        go_round
        case rel => exact ⟨j + 1, true, by omega, rfl, by go_num, HN2.out⟩
        case measure => simp [intOf]; omega
    case neg =>
    obtain rfl : j = ps.length := by omega
    have x0 := HX8.out.b.cell 0
    simp at x0
    by_cases hn : ps.length = 0
    · rw [hn]
      clear hA hn hj hlt h1 hl20
      rcases HCC.out with rfl | rfl | rfl
      all_goals
        cases r
        all_goals
          go_wp2
          go_ret
          exact ⟨rfl, HB8.out⟩
    · have hr : r = true := hA.out.2 (HAT.out.resolve_right hn)
      subst hr
      clear hA hn hj hlt
      have hdl : decide ((ps.length : Int) < (ps.length : Int)) = false := by simp
      rcases HCC.out with rfl | rfl | rfl
      all_goals
        go_wp2
        go_ret
        exact ⟨rfl, HB8.out⟩
end Go.Proofs.Ytpnglbnebkggkaa
